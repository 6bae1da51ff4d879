/- Proved here: the draws of sums answer some text of at most 20 bytes (of CheckGood: of an even number of bytes), some words from -1 to 65536; all old memory stays (condition: the bytes that are drawn from can be read, at most 2^20 of them). -/
import Derived.Test.YtafdcicdaeaehaaSrc2
import Derived.Test.YtafdcicdaeaehaaCheckOf
import Derived.Test.YtafdcicdaeaehaaWordText
namespace Go.Proofs.Ytafdcicdaeaehaa
open Go.ChangeShapes Go.WideShapes Go.ChangeAt Go.RowKit
open Go.ChangeMaps (open_string shut_string)
set_option linter.unusedVariables false

/-- what a drawn word answers -/
def DrawnW (B : Nat) (a : Option Addr) (len cap : Nat) (w : World) (e : Ending) (w' : World) : Prop :=
  ∃ r : Int, e = .returned (.int .i64 r) ∧ -1 ≤ r ∧ r ≤ 65536 ∧ Src B a len cap w' ∧ Below B w w'

set_option maxRecDepth 100000 in
set_option maxHeartbeats 2000000 in
theorem srcWord_any (B : Nat) (a : Option Addr) (len cap : Nat) (w : World) (hS : Src B a len cap w) :
    Calls Try.prog 44 #[.pointer (some ⟨B, 0, none⟩)] w fun e w' => DrawnW B a len cap w e w' := by
  have hlt := hS.lt
  go_enter Try.func44, Try.ntmps44
  go_wp2_with fail
  refine (srcOne_any B a len cap 8 w hS (by omega)).mono ?_
  rintro e w1 ⟨c, rfl, hS1, hO1⟩
  have hlt1 := hS1.lt
  have hb1 := hidS hO1.below
  clear hO1 hS
  cases c
  · go_wp2_with fail
    refine (srcN_any B a len cap 256 w1 hS1 (by omega)).mono ?_
    rintro e w2 ⟨r, rfl, hr1, hr2, hS2, hO2⟩
    have hr3 : r ≤ 255 := by omega
    have hb2 := hidS (hb1.out.trans hO2.below)
    clear hr2 hO2 hS1 hb1
    go_wp2_with fail
    refine (srcN_any B a len cap 256 w2 hS2 (by omega)).mono ?_
    rintro e w3 ⟨q, rfl, hq1, hq2, hS3, hO3⟩
    have hq3 : q ≤ 255 := by omega
    have hb3 := hidS (hb2.out.trans hO3.below)
    clear hq2 hO3 hS2 hb2
    go_wp2
    go_ret
    exact ⟨_, rfl, by omega, by omega, hS3, hb3.out⟩
  · go_wp2_with fail
    refine (srcN_any B a len cap 4 _ (hS1.kept fun k hk => Below.heap_alloc _ _ _ (by omega)) (by omega)).mono ?_
    rintro e w2 ⟨r, rfl, hr1, hr2, hS2, hO2⟩
    have hr3 : r ≤ 3 := by omega
    have hrow : ∃ z : Int, -1 ≤ z ∧ z ≤ 65536 ∧ w2.cell? ⟨w1.heap.size, r.toNat, none⟩ = some (.int .i64 z) := by
      have hh := (hO2.block w1.heap.size (by omega)).trans (heap_new _ _)
      obtain ⟨j, rfl⟩ : ∃ j : Nat, r = j := ⟨r.toNat, by omega⟩
      rw [Int.toNat_natCast, cellOfHeap hh]
      rcases (by omega : j = 0 ∨ j = 1 ∨ j = 2 ∨ j = 3) with rfl | rfl | rfl | rfl
      all_goals exact ⟨_, by decide, by decide, rfl⟩
    obtain ⟨z, hz1, hz2, hc⟩ := hrow
    clear hr2
    have hb2 : Below B w w2 := (hb1.out.alloc (by omega) _).trans hO2.below
    clear hO2 hb1
    go_wp2
    go_ret
    exact ⟨z, rfl, hz1, hz2, hS2, hb2⟩

/-- some text of at most so many bytes -/
def SomeT (most : Nat) (w : World) (e : Ending) (w' : World) : Prop := ∃ t : ByteArray, e = .returned (.string t) ∧ t.size ≤ most ∧ Below w.heap.size w w'

set_option maxRecDepth 100000 in
theorem drawSumOf_any (a : Option Addr) (len cap : Nat) (w : World) (hR : RowAt w.heap.size a len w) (hl : len ≤ 1048576) :
    Calls Try.prog 14 #[.slice a len cap] w fun e w' => SomeT 20 w e w' := by
  go_enter Try.func14, Try.ntmps14
  go_wp2_with fail
  refine (source_any a len cap w hR hl).mono ?_
  rintro e w1 ⟨rfl, hS1, hb1⟩
  go_wp2_with fail
  refine (srcN_any _ a len cap 20 w1 hS1 (by omega)).mono ?_
  rintro e w2 ⟨r, rfl, hr1, hr2, hS2, hO2⟩
  have hb2 := hidS (hb1.trans hO2.below)
  have hr3 : r ≤ 19 := by omega
  clear hR hS1 hO2 hb1 hr2
  go_wp2_with fail
  refine (srcBytes_any _ a len cap r w2 hS2 (by omega)).mono ?_
  rintro e w3 ⟨t, rfl, ht, hS3, hb3⟩
  have hb4 := hidS (hb2.out.trans hb3)
  have ht2 : t.size ≤ 20 := by omega
  clear hS2 hb2 hb3 ht hS3
  go_wp2
  go_ret
  exact ⟨t, rfl, ht2, hb4.out⟩

theorem checkAns_nat {s : ByteArray} (h : s.size ≤ 8000) : ∃ m : Nat, checkAns s = (m : Int) ∧ m ≤ 65535 := by
  have := sumAns_le s
  exact ⟨65535 - sumAns s, by unfold checkAns; rw [if_neg (by omega)]; omega, by omega⟩
/-- some text of an even number of bytes -/
def EvenT (w : World) (e : Ending) (w' : World) : Prop := ∃ t : ByteArray, e = .returned (.string t) ∧ t.size ≤ 20 ∧ t.size % 2 = 0 ∧ Below w.heap.size w w'

set_option maxRecDepth 100000 in
set_option maxHeartbeats 1000000 in
theorem drawCheckGood_any (a : Option Addr) (len cap : Nat) (w : World) (hR : RowAt w.heap.size a len w) (hl : len ≤ 1048576) :
    Calls Try.prog 15 #[.slice a len cap] w fun e w' => EvenT w e w' := by
  go_enter Try.func15, Try.ntmps15
  go_wp2_with fail
  refine (source_any a len cap w hR hl).mono ?_
  rintro e w1 ⟨rfl, hS1, hb1⟩
  go_wp2_with fail
  refine (srcN_any _ a len cap 9 w1 hS1 (by omega)).mono ?_
  rintro e w2 ⟨r, rfl, hr1, hr2, hS2, hO2⟩
  have hb2 := hidS (hb1.trans hO2.below)
  have hr3 : r ≤ 8 := by omega
  clear hR hS1 hO2 hb1 hr2
  go_wp2_with fail
  refine (srcBytes_any _ a len cap _ w2 hS2 (by omega)).mono ?_
  rintro e w3 ⟨t, rfl, ht, hS3, hb3⟩
  have hb4 := hidS (hb2.out.trans hb3)
  have ht2 : t.size ≤ 16 := by omega
  have ht3 := hidS (show t.size % 2 = 0 by omega)
  clear hS2 hb2 hb3 ht
  go_wp2_with fail
  refine (srcOne_any _ a len cap 2 w3 hS3 (by omega)).mono ?_
  rintro e w4 ⟨c, rfl, hS4, hO4⟩
  have hb5 := hidS (hb4.out.trans hO4.below)
  clear hS3 hO4 hb4 hr1 hr3 hS4
  cases c
  · go_wp2
    go_ret
    exact ⟨t, rfl, by omega, ht3.out, hb5.out⟩
  · go_wp2_with fail
    refine (specCheckOf_any t w4 (by unfold maxLen; omega)).mono ?_
    rintro e w5 ⟨rfl, rfl⟩
    obtain ⟨m, hm1, hm2⟩ := checkAns_nat (s := t) (by omega)
    rw [hm1]
    clear hm1
    go_wp2_with fail
    refine (l02Two_any m _ hm2).mono ?_
    rintro e w6 ⟨rfl, hb6⟩
    have hb7 := hidS (hb5.out.trans (hb6.mono hb5.out.size))
    clear hb5 hb6
    go_wp2
    go_ret
    exact ⟨_, rfl, by rw [ByteArray.size_append]; show t.size + 2 ≤ 20; omega, by rw [ByteArray.size_append]; have := ht3.out; show (t.size + 2) % 2 = 0; omega, hb7.out⟩

/-- some word, or a number just beyond -/
def NearW (r : Int) : Prop := -1 ≤ r ∧ r ≤ 65536
def SomeW (w : World) (e : Ending) (w' : World) : Prop := ∃ r : Int, e = .returned (.int .i64 r) ∧ NearW r ∧ Below w.heap.size w w'
def SomeW2 (w : World) (e : Ending) (w' : World) : Prop := ∃ r q : Int, e = .returned (.tuple #[.int .i64 r, .int .i64 q]) ∧ NearW r ∧ NearW q ∧ Below w.heap.size w w'
def SomeW3 (w : World) (e : Ending) (w' : World) : Prop := ∃ r q p : Int, e = .returned (.tuple #[.int .i64 r, .int .i64 q, .int .i64 p]) ∧ NearW r ∧ NearW q ∧ NearW p ∧ Below w.heap.size w w'

set_option maxRecDepth 100000 in
theorem drawWordText_any (a : Option Addr) (len cap : Nat) (w : World) (hR : RowAt w.heap.size a len w) (hl : len ≤ 1048576) :
    Calls Try.prog 18 #[.slice a len cap] w fun e w' => SomeW w e w' := by
  go_enter Try.func18, Try.ntmps18
  go_wp2_with fail
  refine (source_any a len cap w hR hl).mono ?_
  rintro e w1 ⟨rfl, hS1, hb1⟩
  go_wp2_with fail
  refine (srcWord_any _ a len cap w1 hS1).mono ?_
  rintro e w2 ⟨r, rfl, hr1, hr2, hS2, hb2⟩
  have hb3 := hidS (hb1.trans hb2)
  clear hR hS1 hb1 hb2 hS2
  go_wp2
  go_ret
  exact ⟨r, rfl, ⟨hr1, hr2⟩, hb3.out⟩

set_option maxRecDepth 100000 in
theorem drawSumAdd_any (a : Option Addr) (len cap : Nat) (w : World) (hR : RowAt w.heap.size a len w) (hl : len ≤ 1048576) :
    Calls Try.prog 16 #[.slice a len cap] w fun e w' => SomeW2 w e w' := by
  go_enter Try.func16, Try.ntmps16
  go_wp2_with fail
  refine (source_any a len cap w hR hl).mono ?_
  rintro e w1 ⟨rfl, hS1, hb1⟩
  go_wp2_with fail
  refine (srcWord_any _ a len cap w1 hS1).mono ?_
  rintro e w2 ⟨r, rfl, hr1, hr2, hS2, hb2⟩
  have hb3 := hidS (hb1.trans hb2)
  have hr := hidS (show NearW r from ⟨hr1, hr2⟩)
  clear hR hS1 hb1 hb2 hr1 hr2
  go_wp2_with fail
  refine (srcWord_any _ a len cap w2 hS2).mono ?_
  rintro e w3 ⟨q, rfl, hq1, hq2, hS3, hb4⟩
  have hb5 := hidS (hb3.out.trans hb4)
  have hq := hidS (show NearW q from ⟨hq1, hq2⟩)
  clear hS2 hb3 hb4 hS3 hq1 hq2
  go_wp2
  go_ret2
  exact ⟨r, q, rfl, hr.out, hq.out, hb5.out⟩

set_option maxRecDepth 100000 in
theorem drawCheckTurn_any (a : Option Addr) (len cap : Nat) (w : World) (hR : RowAt w.heap.size a len w) (hl : len ≤ 1048576) :
    Calls Try.prog 17 #[.slice a len cap] w fun e w' => SomeW3 w e w' := by
  go_enter Try.func17, Try.ntmps17
  go_wp2_with fail
  refine (source_any a len cap w hR hl).mono ?_
  rintro e w1 ⟨rfl, hS1, hb1⟩
  go_wp2_with fail
  refine (srcWord_any _ a len cap w1 hS1).mono ?_
  rintro e w2 ⟨r, rfl, hr1, hr2, hS2, hb2⟩
  have hb3 := hidS (hb1.trans hb2)
  have hr := hidS (show NearW r from ⟨hr1, hr2⟩)
  clear hR hS1 hb1 hb2 hr1 hr2
  go_wp2_with fail
  refine (srcWord_any _ a len cap w2 hS2).mono ?_
  rintro e w3 ⟨q, rfl, hq1, hq2, hS3, hb4⟩
  have hb5 := hidS (hb3.out.trans hb4)
  have hq := hidS (show NearW q from ⟨hq1, hq2⟩)
  clear hS2 hb3 hb4 hq1 hq2
  go_wp2_with fail
  refine (srcWord_any _ a len cap w3 hS3).mono ?_
  rintro e w4 ⟨p, rfl, hp1, hp2, hS4, hb6⟩
  have hb7 := hidS (hb5.out.trans hb6)
  have hp := hidS (show NearW p from ⟨hp1, hp2⟩)
  clear hS3 hb5 hb6 hp1 hp2 hS4
  go_wp2
  go_ret3
  exact ⟨r, q, p, rfl, hr.out, hq.out, hp.out, hb7.out⟩
end Go.Proofs.Ytafdcicdaeaehaa
