/- Proved here: spec.PacketBytes answers a right packet's bytes (else the empty text); all old memory stays (condition: the body is a string). · Proved here: spec.l03Word and spec.l03Long answer the number of two, of four bytes at a place of a text; memory stays (condition: the bytes are there). -/
import Derived.Test.YtedknnkdnccfmaaGreatDoorAll11
import Derived.Test.YtedknnkdnccfmaaGreatDoorRightSpec
import Derived.Test.YtedknnkdnccfmaaGreatDoorAll1
import Derived.BigRegion
import Derived.BigQuiet
import Derived.Deep.QuietTactic
section
namespace Go.Proofs.YtedknnkdnccfmaaGreatDoor
open Go.ChangeShapes Go.WideShapes Go.ChangeAt Go.RowKit
set_option linter.unusedVariables false
set_option maxRecDepth 100000


theorem specBytes_any (p : Pk) (w : World) (hs : p.body.size ≤ maxLen) :
    Calls Tryz.prog 13 #[.agg #[.int .i64 p.src, .int .i64 p.dst, .int .i64 p.proto, .int .i64 p.a, .int .i64 p.b, .int .i64 p.kind, .int .i64 p.flags, .int .i64 p.seq, .int .i64 p.ack, .string p.body]] w fun e w' => e = .returned (.string (bytesAns p)) ∧ Below w.heap.size w w' := by
  have hB1 := hidS ((Below.refl w.heap.size w).alloc (Nat.le_refl _) (.cells #[.int .i64 p.src, .int .i64 p.dst, .int .i64 p.proto, .int .i64 p.a, .int .i64 p.b, .int .i64 p.kind, .int .i64 p.flags, .int .i64 p.seq, .int .i64 p.ack, .string p.body] 24))
  have HP := hidS (PkAt.new p w)
  go_enter Tryz.func13, Tryz.ntmps13
  go_wp2_with fail
  refine (specRight_any p _ hs).mono ?_
  rintro e w2 ⟨rfl, hb2⟩
  have HP2 := HP.out.later hb2
  have hB2 := hidS (hB1.out.trans (hb2.mono hB1.out.size))
  clear hB1 HP hb2
  obtain ⟨c0, c1, c2, c3, c4, c5, c6, c7, c8, c9⟩ := HP2
  cases hr : rightB p
  · have e : Hid (bytesAns p = ⟨#[]⟩) := if_neg (by rw [hr]; simp)
    go_wp2
    go_ret
    exact ⟨by rw [e.out]; rfl, hB2.out⟩
  · have e : Hid (bytesAns p = bytesOf p) := if_pos hr
    have hF := hidS (fine_of hr)
    go_wp2_with fail
    refine (l03Bytes_any p _ hF.out).mono ?_
    rintro _ w3 ⟨rfl, hb3⟩
    have hB3 := hidS (hB2.out.trans (hb3.mono hB2.out.size))
    go_wp2
    go_ret
    exact ⟨by rw [e.out]; rfl, hB3.out⟩
end Go.Proofs.YtedknnkdnccfmaaGreatDoor
end

section
namespace Go.Proofs.YtedknnkdnccfmaaGreatDoor
open Go.ChangeShapes Go.WideShapes Go.ChangeAt Go.RowKit
set_option linter.unusedVariables false

/-- the byte at a place -/
def byteN (s : ByteArray) (k : Nat) : Nat := (s.data.getD k 0).toNat
theorem byteN_lt (s : ByteArray) (k : Nat) : byteN s k < 256 := UInt8.toNat_lt _
theorem byteN_get {s : ByteArray} {k : Nat} (h : k < s.size) : s[k].toNat = byteN s k := by
  unfold byteN
  rw [Array.getD_eq_getD_getElem?, Array.getElem?_eq_getElem (by simpa using h)]
  rfl
/-- the number of two, of four bytes at a place -/
def word2 (s : ByteArray) (k : Nat) : Nat := 256 * byteN s k + byteN s (k + 1)
def word4 (s : ByteArray) (k : Nat) : Nat := 65536 * word2 s k + word2 s (k + 2)
theorem word2_lt (s : ByteArray) (k : Nat) : word2 s k < 65536 := by have := byteN_lt s k; have := byteN_lt s (k + 1); unfold word2; omega
theorem word4_lt (s : ByteArray) (k : Nat) : word4 s k < 4294967296 := by have := word2_lt s k; have := word2_lt s (k + 2); unfold word4; omega

theorem l03Word_any (s : ByteArray) (k : Nat) (w : World) (hk : k + 1 < s.size) (hs : s.size ≤ 8000) :
    Calls Tryz.prog 108 #[.string s, .int .i64 (k : Int)] w fun e w' => e = .returned (.int .i64 (word2 s k : Nat)) ∧ Below w.heap.size w w' := by
  have hk' : (k : Int) + 1 < (s.size : Int) := by omega
  have hs' : (s.size : Int) ≤ 8000 := by omega
  have b1 : s[k].toNat < 256 := s[k].toNat_lt
  have b2 : s[k + 1].toNat < 256 := s[k + 1].toNat_lt
  have e : Hid ((256 : Int) * (s[k].toNat : Int) + (s[k + 1].toNat : Int) = ((word2 s k : Nat) : Int)) := by
    rw [byteN_get (by omega), byteN_get hk]; unfold word2 Hid; omega
  have t1 : ((k : Int) + 1).toNat = k + 1 := by omega
  have t2 : k < s.size := by omega
  have t3 : (k : Int) < (s.size : Int) := by omega
  have t4 : (0 : Int) ≤ (k : Int) + 1 := by omega
  go_enter Tryz.func108, Tryz.ntmps108
  go_wp2
  go_region
  go_wp2
  go_ret
  exact ⟨by rw [← e.out]; rfl, (Below.refl _ _).drew⟩

theorem l03Long_any (s : ByteArray) (k : Nat) (w : World) (hk : k + 3 < s.size) (hs : s.size ≤ 8000) :
    Calls Tryz.prog 107 #[.string s, .int .i64 (k : Int)] w fun e w' => e = .returned (.int .i64 (word4 s k : Nat)) ∧ Below w.heap.size w w' := by
  have hk' : (k : Int) + 3 < (s.size : Int) := by omega
  have hs' : (s.size : Int) ≤ 8000 := by omega
  have l1 := word2_lt s k
  have l2 := word2_lt s (k + 2)
  have e : Hid ((65536 : Int) * (word2 s k : Int) + (word2 s (k + 2) : Int) = ((word4 s k : Nat) : Int)) := by unfold word4 Hid; omega
  go_enter Tryz.func107, Tryz.ntmps107
  go_wp2_with fail
  refine (l03Word_any s k _ (by omega) hs).mono ?_
  rintro _ w1 ⟨rfl, hb1⟩
  go_wp2_with fail
  refine (l03Word_any s (k + 2) _ (by omega) hs).mono ?_
  rintro _ w2 ⟨rfl, hb2⟩
  have hB := hidS (hb1.trans (hb2.mono hb1.size))
  clear hb1 hb2
  go_wp2
  go_ret
  exact ⟨by rw [← e.out]; rfl, hB.out⟩
end Go.Proofs.YtedknnkdnccfmaaGreatDoor
end
