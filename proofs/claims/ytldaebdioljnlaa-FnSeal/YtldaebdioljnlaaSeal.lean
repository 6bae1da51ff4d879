/- Proved here: what Seal answers: spec.Seal and impl.Seal return the text and the four bytes of its CRC behind it, or the empty text if it has more than 7996 bytes, and leave all old memory alone (no conditions but that a string is one). -/
import Derived.Test.YtldaebdioljnlaaCrcCore
import Derived.Test.YtldaebdioljnlaaJoin
namespace Go.Proofs.Ytldaebdioljnlaa
open Go.ChangeShapes Go.WideShapes Go.ChangeAt Go.RowKit
open Go.ChangeMaps (open_string shut_string)
set_option linter.unusedVariables false

/-- the four bytes of a number, the lowest first -/
def four (n : Nat) : List UInt8 := [UInt8.ofNat n, UInt8.ofNat (n / 256), UInt8.ofNat (n / 65536), UInt8.ofNat (n / 16777216)]

theorem conv4 (w : World) (e : TypeId) (n : Nat) (v0 v1 v2 v3 : Int) (h0 : v0 = ((UInt8.ofNat n).toNat : Int)) (h1 : v1 = ((UInt8.ofNat (n / 256)).toNat : Int)) (h2 : v2 = ((UInt8.ofNat (n / 65536)).toNat : Int)) (h3 : v3 = ((UInt8.ofNat (n / 16777216)).toNat : Int)) :
    (convert 22 9 (.slice (some ⟨w.heap.size, 0, none⟩) 4 4)).run Try.prog (w.alloc (.cells #[.int .u8 v0, .int .u8 v1, .int .u8 v2, .int .u8 v3] e)) = .ok (.string ⟨(four n).toArray⟩) (w.alloc (.cells #[.int .u8 v0, .int .u8 v1, .int .u8 v2, .int .u8 v3] e)) := by
  refine run_convert_bytes_back (P := Try.prog) _ 22 9 5 ⟨w.heap.size, 0, none⟩ 4 (four n) Try.underlying22 Try.underlying5 Try.underlying9 ?_
  intro j hj
  have hj' : j < 4 := hj
  subst h0 h1 h2 h3
  rw [Addr.add_lit, Nat.zero_add]
  match j, hj' with
  | 0, _ => simp [four]
  | 1, _ => simp [four]
  | 2, _ => simp [four]
  | 3, _ => simp [four]

theorem four0 {n : Nat} : (n : Int) % 256 = ((UInt8.ofNat n).toNat : Int) := by simp
theorem four1 {n : Nat} : (n : Int) / 256 % 256 = ((UInt8.ofNat (n / 256)).toNat : Int) := by simp
theorem four2 {n : Nat} : (n : Int) / 65536 % 256 = ((UInt8.ofNat (n / 65536)).toNat : Int) := by simp
theorem four3 {n : Nat} (h : n < 4294967296) : (n : Int) / 16777216 = ((UInt8.ofNat (n / 16777216)).toNat : Int) := by simp; omega

set_option maxRecDepth 100000 in
theorem l01Four_any (n : Nat) (w : World) (h : n < 4294967296) :
    Calls Try.prog 19 #[.int .i64 (n : Int)] w fun e w' => e = .returned (.string ⟨(four n).toArray⟩) ∧ Below w.heap.size w w' := by
  have hcv := conv4 w 5 n _ _ _ _ four0 four1 four2 (four3 h)
  go_enter Try.func19, Try.ntmps19
  go_wp2
  go_ret
  exact ⟨rfl, (Below.refl _ _).alloc (Nat.le_refl _) _⟩

set_option maxRecDepth 100000 in
theorem crcText_any (n : Nat) (w : World) (h : n < 4294967296) :
    Calls Try.prog 18 #[.int .i64 (n : Int)] w fun e w' => e = .returned (.string ⟨(four n).toArray⟩) ∧ Below w.heap.size w w' := by
  have hcv := conv4 w 48 n _ _ _ _ four0 four1 four2 (four3 h)
  go_enter Try.func18, Try.ntmps18
  go_wp2
  refine wp_loop_rounds 5 ?_
  rw [rounds_succ]
  go_wp2
  rw [rounds_succ]
  go_wp2
  rw [rounds_succ]
  go_wp2
  rw [rounds_succ]
  go_wp2
  rw [rounds_succ]
  go_wp2
  go_ret
  exact ⟨rfl, (Below.refl _ _).alloc (Nat.le_refl _) _⟩

/-- the text and its CRC's four bytes -/
def sealB (s : ByteArray) : ByteArray := if 7996 < s.size then ⟨#[]⟩ else s ++ ⟨(four (crcOf 0 s.data.toList)).toArray⟩

theorem crcAns_zero {s : ByteArray} (h : ¬ 8000 < s.size) : crcAns 0 s = (crcOf 0 s.data.toList : Nat) := if_neg (by omega)

theorem implSeal_any (s : ByteArray) (w : World) (hs : s.size ≤ maxLen) :
    Calls Try.prog 5 #[.string s] w fun e w' => e = .returned (.string (sealB s)) ∧ Below w.heap.size w w' := by
  have hs' : s.size ≤ 2 ^ 63 - 1 := hs
  by_cases h : 7996 < s.size
  · have e : sealB s = ⟨#[]⟩ := if_pos h
    rw [e]
    go_enter Try.func5, Try.ntmps5
    go_wp2
    go_ret
    exact ⟨rfl, Below.refl _ _⟩
  · have e : sealB s = s ++ ⟨(four (crcOf 0 s.data.toList)).toArray⟩ := if_neg h
    rw [e]
    clear e
    have hlt := crcOf_lt 0 s.data.toList (by omega)
    go_enter Try.func5, Try.ntmps5
    go_wp2_with fail
    refine (implCrc_any _ _ hs).mono ?_
    rintro e w0 ⟨rfl, hw⟩
    subst hw
    rw [crcAns_zero (by omega)]
    go_wp2_with fail
    refine (crcText_any _ _ hlt).mono ?_
    rintro e w1 ⟨rfl, hb1⟩
    go_wp2_with fail
    refine (joinTexts_two s ⟨(four (crcOf 0 s.data.toList)).toArray⟩ w1.heap.size _ (by simp) (by simp) (by show s.size + (four (crcOf 0 s.data.toList)).toArray.size ≤ _; rw [List.size_toArray]; simp [four]; omega)).mono ?_
    rintro e w2 ⟨rfl, hb2⟩
    go_wp2
    go_ret
    exact ⟨rfl, hb1.trans (((Below.refl _ _).alloc hb1.size _).trans (hb2.mono (by have := hb1.size; simp; omega)))⟩

theorem specSeal_any (s : ByteArray) (w : World) (hs : s.size ≤ maxLen) :
    Calls Try.prog 6 #[.string s] w fun e w' => e = .returned (.string (sealB s)) ∧ Below w.heap.size w w' := by
  have hs' : s.size ≤ 2 ^ 63 - 1 := hs
  by_cases h : 7996 < s.size
  · have e : sealB s = ⟨#[]⟩ := if_pos h
    rw [e]
    go_enter Try.func6, Try.ntmps6
    go_wp2
    go_ret
    exact ⟨rfl, Below.refl _ _⟩
  · have e : sealB s = s ++ ⟨(four (crcOf 0 s.data.toList)).toArray⟩ := if_neg h
    rw [e]
    clear e
    have hlt := crcOf_lt 0 s.data.toList (by omega)
    have h4 : (four (crcOf 0 s.data.toList)).length ≤ 4 := by simp [four]
    go_enter Try.func6, Try.ntmps6
    go_wp2_with fail
    refine (l01Crc_any 0 _ _ (by omega) hs).mono ?_
    rintro e w0 ⟨rfl, hw⟩
    subst hw
    go_wp2_with fail
    refine (l01Four_any _ _ hlt).mono ?_
    rintro e w1 ⟨rfl, hb1⟩
    go_wp2
    go_ret
    exact ⟨rfl, hb1⟩
end Go.Proofs.Ytldaebdioljnlaa
