/- Proved here: spec.DrawPutNum answers some number of int64, spec.DrawPutText some text of at most 20001 bytes that has at most 19 if it has at most 8000; all old memory stays (condition: the bytes that are drawn from can be read, at most 2^20 of them). -/
import Derived.Test.YtldaebdioljnlaaDoorSrc2
import Derived.Deep.OwnRows
namespace Go.Proofs.YtldaebdioljnlaaDoor
open Go.ChangeShapes Go.WideShapes Go.ChangeAt Go.RowKit
open Go.ChangeMaps (open_string shut_string)
set_option linter.unusedVariables false

theorem made_own (w : World) (B N : Nat) (hB : B ≤ w.heap.size) (hN : N ≤ 100000) : (w.alloc (.cells (madeCells #[.int .u8 0] N) 5)).ownsRow B 5 1 (.slice (some ⟨w.heap.size, 0, none⟩) (List.replicate N (0 : UInt8)).length N) (List.replicate N (0 : UInt8)).length (bytesV (List.replicate N 0)) := by
  have hl : (List.replicate N (0 : UInt8)).length = N := List.length_replicate
  rw [hl]
  refine ⟨by simp [bytesV], Or.inr ⟨w.heap.size, N, madeCells #[.int .u8 0] N, rfl, hB, heap_new _ _, Nat.le_refl _, by unfold maxLen; omega, by rw [size_madeCells]; omega, ?_⟩⟩
  rw [List.take_of_length_le (by rw [Array.length_toList, size_madeCells]; omega)]
  apply List.ext_getElem
  · simp [size_madeCells, bytesV]
  · intro i h1 h2
    simp only [bytesV, madeCells, Array.getElem_toList, List.getElem_map, List.getElem_replicate, Array.getElem_map, Array.getElem_range]
    simp [Nat.mod_one]


set_option maxRecDepth 100000 in
set_option maxHeartbeats 2000000 in
theorem srcAny_any (B : Nat) (a : Option Addr) (len cap : Nat) (w : World) (hS : Src B a len cap w) :
    Calls Tryd.prog 13 #[.pointer (some ⟨B, 0, none⟩)] w fun e w' => DrawnI B a len cap w e w' := by
  go_enter Tryd.func13, Tryd.ntmps13
  go_wp2_with fail
  refine (srcOne_any _ a len cap 4 w hS (by omega)).mono ?_
  rintro e w1 ⟨c, rfl, hS1, hO1⟩
  have hb1 := hO1.below
  clear hS hO1
  cases c
  · go_wp2_with fail
    refine (srcN_any _ a len cap 1099511627776 w1 hS1 (by omega)).mono ?_
    rintro e w2 ⟨r, rfl, hr1, hr2, hS2, hO2⟩
    have hb2 := hb1.trans hO2.below
    have hr3 : r < 1099511627776 := by omega
    clear hS1 hO2 hb1 hr2
    go_wp2
    go_ret
    exact ⟨r - 1048576, rfl, by omega, by omega, hS2, hb2⟩
  · go_wp2_with fail
    refine (srcEdge_any _ a len cap w1 hS1).mono ?_
    rintro e w2 ⟨r, rfl, hr1, hr2, hS2, hb2⟩
    have HR : Hid (-9223372036854775808 ≤ r ∧ r ≤ 9223372036854775807) := ⟨hr1, hr2⟩
    have hb3 := hb1.trans hb2
    clear hr1 hr2 hS1 hb1 hb2
    go_wp2
    go_ret
    exact ⟨r, rfl, HR.out.1, HR.out.2, hS2, hb3⟩

/-- what DrawPutNum answers -/
def SomeNum (w : World) (e : Ending) (w' : World) : Prop := ∃ n : Int, e = .returned (.int .i64 n) ∧ -9223372036854775808 ≤ n ∧ n ≤ 9223372036854775807 ∧ Below w.heap.size w w'

set_option maxRecDepth 100000 in
theorem drawPutNum_any (a : Option Addr) (len cap : Nat) (w : World) (hR : RowAt w.heap.size a len w) (hl : len ≤ 1048576) :
    Calls Tryd.prog 4 #[.slice a len cap] w fun e w' => SomeNum w e w' := by
  go_enter Tryd.func4, Tryd.ntmps4
  go_wp2_with fail
  refine (source_any a len cap w hR hl).mono ?_
  rintro e w1 ⟨rfl, hS1, hb1⟩
  go_wp2_with fail
  refine (srcAny_any _ a len cap w1 hS1).mono ?_
  rintro e w2 ⟨r, rfl, hr1, hr2, hS2, hb2⟩
  have HR : Hid (-9223372036854775808 ≤ r ∧ r ≤ 9223372036854775807) := ⟨hr1, hr2⟩
  clear hr1 hr2 hR
  go_wp2
  go_ret
  exact ⟨r, rfl, HR.out.1, HR.out.2, hb1.trans hb2⟩

/-- what DrawPutText answers -/
def SomePut (w : World) (e : Ending) (w' : World) : Prop := ∃ t : ByteArray, e = .returned (.string t) ∧ t.size ≤ 20001 ∧ (t.size ≤ 19 ∨ 8000 < t.size) ∧ Below w.heap.size w w'

set_option maxRecDepth 100000 in
set_option maxHeartbeats 2000000 in
theorem drawPutText_any (a : Option Addr) (len cap : Nat) (w : World) (hR : RowAt w.heap.size a len w) (hl : len ≤ 1048576) :
    Calls Tryd.prog 8 #[.slice a len cap] w fun e w' => SomePut w e w' := by
  go_enter Tryd.func8, Tryd.ntmps8
  go_wp2_with fail
  refine (source_any a len cap w hR hl).mono ?_
  rintro e w1 ⟨rfl, hS1, hb1⟩
  go_wp2_with fail
  refine (srcOne_any _ a len cap 8 w1 hS1 (by omega)).mono ?_
  rintro e w2 ⟨c, rfl, hS2, hO2⟩
  have hb2 := hb1.trans hO2.below
  clear hR hS1 hO2 hb1
  cases c
  · go_wp2_with fail
    refine (srcN_any _ a len cap 20 w2 hS2 (by omega)).mono ?_
    rintro e w3 ⟨r, rfl, hr1, hr2, hS3, hO3⟩
    have hb3 := hb2.trans hO3.below
    have hr3 : r ≤ 19 := by omega
    clear hS2 hO3 hb2 hr2
    go_wp2_with fail
    refine (srcBytes_any _ a len cap r w3 hS3 (by omega)).mono ?_
    rintro e w4 ⟨t, rfl, ht, hS4, hb4⟩
    have hb5 := hb3.trans hb4
    have ht2 : t.size ≤ 20001 := by omega
    have ht3 : t.size ≤ 19 ∨ 8000 < t.size := by omega
    clear hS3 hb3 hb4 hS4 ht
    go_wp2
    go_ret
    exact ⟨t, rfl, ht2, ht3, hb5⟩
  · go_wp2_with fail
    refine (srcN_any _ a len cap 3 w2 hS2 (by omega)).mono ?_
    rintro e w3 ⟨r, rfl, hr1, hr2, hS3, hO3⟩
    have hb3 := hb2.trans hO3.below
    have hr3 : r ≤ 2 := by omega
    have hlt := hS3.lt
    clear hS2 hO3 hb2 hr2 hS3
    obtain ⟨N, hN⟩ : ∃ N : Nat, (N : Int) = 19999 + r := ⟨(19999 + r).toNat, by omega⟩
    have hmk := run_make_row' (P := Tryd.prog) 22 5 (.int .u8 0) 1 Tryd.underlying22 Tryd.infoU8 rfl .i64 .i64 N (by omega) (by omega) w3
    rw [hN] at hmk
    have hcv := conv_own (made_own w3 w3.heap.size N (Nat.le_refl _) (by omega))
    have hl2 : (List.replicate N (0 : UInt8)).length = N := List.length_replicate
    rw [hl2] at hcv
    obtain ⟨s, hs, hsz, hsz2⟩ : ∃ s : ByteArray, s = ⟨(List.replicate N (0 : UInt8)).toArray⟩ ∧ s.size ≤ 20001 ∧ 8000 < s.size := ⟨_, rfl, by show (List.replicate N (0 : UInt8)).toArray.size ≤ _; simp; omega, by show _ < (List.replicate N (0 : UInt8)).toArray.size; simp; omega⟩
    rw [← hs] at hcv
    clear hs hl2 hN
    go_wp2
    go_ret
    exact ⟨s, rfl, hsz, Or.inr hsz2, (hb3.alloc (by have := hb3.size; omega) _)⟩
end Go.Proofs.YtldaebdioljnlaaDoor
