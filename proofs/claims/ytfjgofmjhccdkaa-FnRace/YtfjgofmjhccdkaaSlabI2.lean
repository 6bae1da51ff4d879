/- Proved here: impl.isLink and impl.mayBeLinked answer as the plain functions; all old memory stays (conditions: the slab's rows can be read; few chains, few slots; numbers of int64). -/
import Derived.Test.YtfjgofmjhccdkaaSlabI1
namespace Go.Proofs.Ytfjgofmjhccdkaa
open Go.ChangeShapes Go.WideShapes Go.ChangeAt Go.RowKit
set_option linter.unusedVariables false
set_option linter.unusedSimpArgs false
set_option maxRecDepth 100000

theorem next_in (nS nH : Nat) (n : Int) : nextB nS nH n = (inB nS n || inB nH (-1 - n)) := by
  unfold nextB endB inB
  by_cases h1 : n < 0 <;> by_cases h2 : -(nH : Int) ≤ n <;> by_cases h3 : 0 ≤ n <;> by_cases h4 : n ≤ (nS : Int) - 1 <;> simp [h1, h2, h3, h4] <;> omega
set_option maxHeartbeats 2000000 in
theorem isLink_any (aS aH : Option Addr) (nS cS nH cH : Nat) (n : Int) (w : World) (hn : fitZ n) (hS : nS ≤ 1048576) (hH : nH ≤ 1048576) :
    Calls Try.prog 113 #[.agg #[.slice aS nS cS, .slice aH nH cH], .int .i64 n] w fun e w' => e = .returned (.bool (nextB nS nH n)) ∧ Below w.heap.size w w' := by
  rw [next_in]
  have HI := hidS (fun W => isSlot_any aS aH nS cS nH cH n W hS)
  have HE := hidS (fun W => endOf_any n W hn)
  have HC := hidS (fun W => isChain_any aS aH nS cS nH cH (-1 - n) W hH)
  have HA := hidS (heap_newG w (.cells #[.slice aS nS cS, .slice aH nH cH] 26))
  have HB0 := hidS ((Below.refl w.heap.size w).alloc (Nat.le_refl _) (.cells #[.slice aS nS cS, .slice aH nH cH] 26))
  generalize inB nS n = b1 at HI ⊢
  generalize inB nH (-1 - n) = b2 at HC ⊢
  clear hn
  cases b1
  · go_enter Try.func113, Try.ntmps113
    go_wp2_with fail
    generalize w.alloc (.cells #[.slice aS nS cS, .slice aH nH cH] 26) = w0 at HA HB0 ⊢
    refine grow_guarded 10 [.is (.agg #[.slice aS nS cS, .slice aH nH cH]), .is (.int .i64 n), .is (.bool false), .is (.bool false), .is (.agg #[.slice aS nS cS, .slice aH nH cH]), .is (.int .i64 n), .is (.int .i64 (-1 - n)), .is (.bool b2), .is (.bool b2), .is (.bool b2)] rfl (by kernel_rfl) (by kernel_rfl) ?stepslf ?finlf
    case stepslf =>
      refine ⟨?_, ?_, ?_, ?_, ?_, ?_, ?_, ?_, ?_, ?_, trivial⟩
      · refine stepW_of_u ⟨rfl, fun v W ρ hC kc kf ks ki kd => ?_⟩
        have t2 : ρ (.tmp 2) = .pointer (some ⟨w.heap.size, 0, none⟩) := ki 2 (by decide)
        have hg := blk_later HA.out hC
        have c0 := blk_cell hg 0
        have c1 := blk_cell hg 1
        simp at c0 c1
        simp [execOp, go_sem, kc, t2, c0, c1]
        exact ⟨hC, Below.refl _ _, rfl⟩
      · refine stepW_of_u ⟨rfl, fun v W ρ hC kc kf ks ki kd => ?_⟩
        have t1 : ρ (.tmp 1) = .int .i64 n := ki 1 (by decide)
        simp [execOp, go_sem, kc, t1]
        exact ⟨hC, Below.refl _ _, rfl⟩
      · refine stepW_of_u ⟨rfl, fun v W ρ hC kc kf ks ki kd => ?_⟩
        have d0 : v 0 = .agg #[.slice aS nS cS, .slice aH nH cH] := (kdj kd 0 rfl :)
        have t5 : ρ (.tmp 5) = .agg #[.slice aS nS cS, .slice aH nH cH] := (ks 0 5 (by decide) rfl).trans d0
        have d1 : v 1 = .int .i64 n := (kdj kd 1 rfl :)
        have t6 : ρ (.tmp 6) = .int .i64 n := (ks 1 6 (by decide) rfl).trans d1
        simp [execOp, go_sem, t5, t6, kf]
        exact Calls.mono (HI.out W) (fun e x h => ⟨_, h.1, hC.trans (h.2.mono hC.size), h.2, rfl⟩)
      · refine stepW_of_u ⟨rfl, fun v W ρ hC kc kf ks ki kd => ?_⟩
        have d2 : v 2 = .bool false := (kdj kd 2 rfl :)
        have t7 : ρ (.tmp 7) = .bool false := (ks 2 7 (by decide) rfl).trans d2
        simp [execOp, go_sem, kc, t7]
        exact ⟨hC, Below.refl _ _, rfl⟩
      · intro v W ρ y hC kc kf ks ki ky ku kd
        have dg : v 3 = .bool false := (kdj kd 3 rfl :)
        have hy := ky 3 8 false (by decide) rfl dg
        rw [if_pos (by simp [Region.wanted, hy])]
        have t2 : ρ (.tmp 2) = .pointer (some ⟨w.heap.size, 0, none⟩) := ki 2 (by decide)
        have hg := blk_later HA.out hC
        have c0 := blk_cell hg 0
        have c1 := blk_cell hg 1
        simp at c0 c1
        simp [execOp, go_sem, kc, t2, c0, c1]
        exact ⟨hC, Below.refl _ _, rfl⟩
      · intro v W ρ y hC kc kf ks ki ky ku kd
        have dg : v 3 = .bool false := (kdj kd 3 rfl :)
        have hy := ky 3 8 false (by decide) rfl dg
        rw [if_pos (by simp [Region.wanted, hy])]
        have t1 : ρ (.tmp 1) = .int .i64 n := ki 1 (by decide)
        simp [execOp, go_sem, kc, t1]
        exact ⟨hC, Below.refl _ _, rfl⟩
      · intro v W ρ y hC kc kf ks ki ky ku kd
        have dg : v 3 = .bool false := (kdj kd 3 rfl :)
        have hy := ky 3 8 false (by decide) rfl dg
        rw [if_pos (by simp [Region.wanted, hy])]
        have d5 : v 5 = .int .i64 n := (kdj kd 5 rfl :)
        have t10 : ρ (.tmp 10) = .int .i64 n := (ks 5 10 (by decide) rfl).trans d5
        simp [execOp, go_sem, t10, kf]
        exact Calls.mono ((HE.out W).mono (fun e x h => (⟨h.1, by rw [h.2]; exact Below.refl _ _⟩ : e = .returned (.int .i64 (-1 - n)) ∧ Below W.heap.size W x))) (fun e x h => ⟨_, h.1, hC.trans (h.2.mono hC.size), h.2, rfl⟩)
      · intro v W ρ y hC kc kf ks ki ky ku kd
        have dg : v 3 = .bool false := (kdj kd 3 rfl :)
        have hy := ky 3 8 false (by decide) rfl dg
        rw [if_pos (by simp [Region.wanted, hy])]
        have d4 : v 4 = .agg #[.slice aS nS cS, .slice aH nH cH] := (kdj kd 4 rfl :)
        have t9 : ρ (.tmp 9) = .agg #[.slice aS nS cS, .slice aH nH cH] := (ks 4 9 (by decide) rfl).trans d4
        have d6 : v 6 = .int .i64 (-1 - n) := (kdj kd 6 rfl :)
        have t11 : ρ (.tmp 11) = .int .i64 (-1 - n) := (ks 6 11 (by decide) rfl).trans d6
        simp [execOp, go_sem, t9, t11, kf]
        exact Calls.mono (HC.out W) (fun e x h => ⟨_, h.1, hC.trans (h.2.mono hC.size), h.2, rfl⟩)
      · refine stepW_of_u ⟨rfl, fun v W ρ hC kc kf ks ki kd => ?_⟩
        have d3 : v 3 = .bool false := (kdj kd 3 rfl :)
        have t8 : ρ (.tmp 8) = .bool false := (ks 3 8 (by decide) rfl).trans d3
        have d7 : v 7 = .bool b2 := (kdj kd 7 rfl :)
        have t12 : ρ (.tmp 12) = .bool b2 := (ks 7 12 (by decide) rfl).trans d7
        simp [execOp, go_sem, kc, t8, t12]
        exact ⟨hC, Below.refl _ _, rfl⟩
      · refine stepW_of_u ⟨rfl, fun v W ρ hC kc kf ks ki kd => ?_⟩
        have d8 : v 8 = .bool b2 := (kdj kd 8 rfl :)
        have t13 : ρ (.tmp 13) = .bool b2 := (ks 8 13 (by decide) rfl).trans d8
        simp [execOp, go_sem, kc, t13]
        exact ⟨hC, Below.refl _ _, rfl⟩
    intro vlf Wlf hblf hall
    have hvlf : vlf 9 = .bool b2 := hall 9 (by decide)
    simp [upto, Act.put]
    rw [hvlf]
    clear hall hvlf
    go_wp2_with fail
    go_ret
    exact ⟨by simp, HB0.out.trans (hblf.mono HB0.out.size)⟩
  · go_enter Try.func113, Try.ntmps113
    go_wp2_with fail
    generalize w.alloc (.cells #[.slice aS nS cS, .slice aH nH cH] 26) = w0 at HA HB0 ⊢
    refine grow_guarded 10 [.is (.agg #[.slice aS nS cS, .slice aH nH cH]), .is (.int .i64 n), .is (.bool true), .is (.bool true), .is (undef), .is (undef), .is (undef), .is (undef), .is (.bool true), .is (.bool true)] rfl (by kernel_rfl) (by kernel_rfl) ?stepslt ?finlt
    case stepslt =>
      refine ⟨?_, ?_, ?_, ?_, ?_, ?_, ?_, ?_, ?_, ?_, trivial⟩
      · refine stepW_of_u ⟨rfl, fun v W ρ hC kc kf ks ki kd => ?_⟩
        have t2 : ρ (.tmp 2) = .pointer (some ⟨w.heap.size, 0, none⟩) := ki 2 (by decide)
        have hg := blk_later HA.out hC
        have c0 := blk_cell hg 0
        have c1 := blk_cell hg 1
        simp at c0 c1
        simp [execOp, go_sem, kc, t2, c0, c1]
        exact ⟨hC, Below.refl _ _, rfl⟩
      · refine stepW_of_u ⟨rfl, fun v W ρ hC kc kf ks ki kd => ?_⟩
        have t1 : ρ (.tmp 1) = .int .i64 n := ki 1 (by decide)
        simp [execOp, go_sem, kc, t1]
        exact ⟨hC, Below.refl _ _, rfl⟩
      · refine stepW_of_u ⟨rfl, fun v W ρ hC kc kf ks ki kd => ?_⟩
        have d0 : v 0 = .agg #[.slice aS nS cS, .slice aH nH cH] := (kdj kd 0 rfl :)
        have t5 : ρ (.tmp 5) = .agg #[.slice aS nS cS, .slice aH nH cH] := (ks 0 5 (by decide) rfl).trans d0
        have d1 : v 1 = .int .i64 n := (kdj kd 1 rfl :)
        have t6 : ρ (.tmp 6) = .int .i64 n := (ks 1 6 (by decide) rfl).trans d1
        simp [execOp, go_sem, t5, t6, kf]
        exact Calls.mono (HI.out W) (fun e x h => ⟨_, h.1, hC.trans (h.2.mono hC.size), h.2, rfl⟩)
      · refine stepW_of_u ⟨rfl, fun v W ρ hC kc kf ks ki kd => ?_⟩
        have d2 : v 2 = .bool true := (kdj kd 2 rfl :)
        have t7 : ρ (.tmp 7) = .bool true := (ks 2 7 (by decide) rfl).trans d2
        simp [execOp, go_sem, kc, t7]
        exact ⟨hC, Below.refl _ _, rfl⟩
      · intro v W ρ y hC kc kf ks ki ky ku kd
        have dg : v 3 = .bool true := (kdj kd 3 rfl :)
        have hy := ky 3 8 true (by decide) rfl dg
        rw [if_neg (by simp [Region.wanted, hy])]
        exact ⟨Below.refl _ _, rfl⟩
      · intro v W ρ y hC kc kf ks ki ky ku kd
        have dg : v 3 = .bool true := (kdj kd 3 rfl :)
        have hy := ky 3 8 true (by decide) rfl dg
        rw [if_neg (by simp [Region.wanted, hy])]
        exact ⟨Below.refl _ _, rfl⟩
      · intro v W ρ y hC kc kf ks ki ky ku kd
        have dg : v 3 = .bool true := (kdj kd 3 rfl :)
        have hy := ky 3 8 true (by decide) rfl dg
        rw [if_neg (by simp [Region.wanted, hy])]
        exact ⟨Below.refl _ _, rfl⟩
      · intro v W ρ y hC kc kf ks ki ky ku kd
        have dg : v 3 = .bool true := (kdj kd 3 rfl :)
        have hy := ky 3 8 true (by decide) rfl dg
        rw [if_neg (by simp [Region.wanted, hy])]
        exact ⟨Below.refl _ _, rfl⟩
      · refine stepW_of_u ⟨rfl, fun v W ρ hC kc kf ks ki kd => ?_⟩
        have d3 : v 3 = .bool true := (kdj kd 3 rfl :)
        have t8 : ρ (.tmp 8) = .bool true := (ks 3 8 (by decide) rfl).trans d3
        simp [execOp, go_sem, kc, t8]
        exact ⟨hC, Below.refl _ _, rfl⟩
      · refine stepW_of_u ⟨rfl, fun v W ρ hC kc kf ks ki kd => ?_⟩
        have d8 : v 8 = .bool true := (kdj kd 8 rfl :)
        have t13 : ρ (.tmp 13) = .bool true := (ks 8 13 (by decide) rfl).trans d8
        simp [execOp, go_sem, kc, t13]
        exact ⟨hC, Below.refl _ _, rfl⟩
    intro vlt Wlt hblt hall
    have hvlt : vlt 9 = .bool true := hall 9 (by decide)
    simp [upto, Act.put]
    rw [hvlt]
    clear hall hvlt
    go_wp2_with fail
    go_ret
    exact ⟨by simp, HB0.out.trans (hblt.mono HB0.out.size)⟩
/-- may that slot lie in that chain? -/
def mayB (s : Slb) (n c : Int) : Bool := inB s.slots.length n && (!decide ((slotN s n).refs = 0) && ((slotN s n).key.tmod s.heads.length == c))
set_option maxHeartbeats 4000000 in
theorem mayBeLinked_any (aS aH : Option Addr) (cS cH : Nat) (s : Slb) (n c : Int) (w : World) (hR : SlabZ aS aH s w) (h1 : s.slots.length ≤ 1048576) (h2 : s.heads.length ≤ 1048576) (h3 : 1 ≤ s.heads.length) (hk : ∀ i, i < s.slots.length → 0 ≤ (s.slots.getD i zeroSlt).key ∧ (s.slots.getD i zeroSlt).key ≤ 999) :
    Calls Try.prog 132 #[.agg #[.slice aS s.slots.length cS, .slice aH s.heads.length cH], .int .i64 n, .int .i64 c] w fun e w' => e = .returned (.bool (mayB s n c)) ∧ Below w.heap.size w w' := by
  have HI := hidS (fun W => isSlot_any aS aH s.slots.length cS s.heads.length cH n W h1)
  have HA := hidS (heap_newG w (.cells #[.slice aS s.slots.length cS, .slice aH s.heads.length cH] 26))
  have HB0 := hidS ((Below.refl w.heap.size w).alloc (Nat.le_refl _) (.cells #[.slice aS s.slots.length cS, .slice aH s.heads.length cH] 26))
  cases hb : inB s.slots.length n
  · have E : Hid (mayB s n c = false) := by show _ = _; unfold mayB; rw [hb]; rfl
    rw [hb] at HI
    clear hb hk hR
    go_enter Try.func132, Try.ntmps132
    go_wp2_with fail
    generalize w.alloc (.cells #[.slice aS s.slots.length cS, .slice aH s.heads.length cH] 26) = w0 at HA HB0 ⊢
    refine grow_guarded 25 [.is (.agg #[.slice aS s.slots.length cS, .slice aH s.heads.length cH]), .is (.int .i64 n), .is (.bool false), .is (.bool false), .is (undef), .is (undef), .is (undef), .is (undef), .is (undef), .is (undef), .is (undef), .is (.bool false), .is (.bool false), .is (undef), .is (undef), .is (undef), .is (undef), .is (undef), .is (undef), .is (undef), .is (undef), .is (undef), .is (undef), .is (.bool false), .is (.bool false)] rfl (by kernel_rfl) (by kernel_rfl) ?stepsm0 ?finm0
    case stepsm0 =>
      refine ⟨?_, ?_, ?_, ?_, ?_, ?_, ?_, ?_, ?_, ?_, ?_, ?_, ?_, ?_, ?_, ?_, ?_, ?_, ?_, ?_, ?_, ?_, ?_, ?_, ?_, trivial⟩
      · refine stepW_of_u ⟨rfl, fun v W ρ hC kc kf ks ki kd => ?_⟩
        have t3 : ρ (.tmp 3) = .pointer (some ⟨w.heap.size, 0, none⟩) := ki 3 (by decide)
        have hg := blk_later HA.out hC
        have c0 := blk_cell hg 0
        have c1 := blk_cell hg 1
        simp at c0 c1
        simp [execOp, go_sem, kc, t3, c0, c1]
        exact ⟨hC, Below.refl _ _, rfl⟩
      · refine stepW_of_u ⟨rfl, fun v W ρ hC kc kf ks ki kd => ?_⟩
        have t1 : ρ (.tmp 1) = .int .i64 n := ki 1 (by decide)
        simp [execOp, go_sem, kc, t1]
        exact ⟨hC, Below.refl _ _, rfl⟩
      · refine stepW_of_u ⟨rfl, fun v W ρ hC kc kf ks ki kd => ?_⟩
        have d0 : v 0 = .agg #[.slice aS s.slots.length cS, .slice aH s.heads.length cH] := (kdj kd 0 rfl :)
        have t7 : ρ (.tmp 7) = .agg #[.slice aS s.slots.length cS, .slice aH s.heads.length cH] := (ks 0 7 (by decide) rfl).trans d0
        have d1 : v 1 = .int .i64 n := (kdj kd 1 rfl :)
        have t8 : ρ (.tmp 8) = .int .i64 n := (ks 1 8 (by decide) rfl).trans d1
        simp [execOp, go_sem, t7, t8, kf]
        exact Calls.mono (HI.out W) (fun e x h => ⟨_, h.1, hC.trans (h.2.mono hC.size), h.2, rfl⟩)
      · refine stepW_of_u ⟨rfl, fun v W ρ hC kc kf ks ki kd => ?_⟩
        have d2 : v 2 = .bool false := (kdj kd 2 rfl :)
        have t9 : ρ (.tmp 9) = .bool false := (ks 2 9 (by decide) rfl).trans d2
        simp [execOp, go_sem, kc, t9]
        exact ⟨hC, Below.refl _ _, rfl⟩
      · intro v W ρ y hC kc kf ks ki ky ku kd
        have dg : v 3 = .bool false := (kdj kd 3 rfl :)
        have hy := ky 3 10 false (by decide) rfl dg
        rw [if_neg (by simp [Region.wanted, hy])]
        exact ⟨Below.refl _ _, rfl⟩
      · intro v W ρ y hC kc kf ks ki ky ku kd
        have dg : v 3 = .bool false := (kdj kd 3 rfl :)
        have hy := ky 3 10 false (by decide) rfl dg
        rw [if_neg (by simp [Region.wanted, hy])]
        exact ⟨Below.refl _ _, rfl⟩
      · intro v W ρ y hC kc kf ks ki ky ku kd
        have dg : v 3 = .bool false := (kdj kd 3 rfl :)
        have hy := ky 3 10 false (by decide) rfl dg
        rw [if_neg (by simp [Region.wanted, hy])]
        exact ⟨Below.refl _ _, rfl⟩
      · intro v W ρ y hC kc kf ks ki ky ku kd
        have dg : v 3 = .bool false := (kdj kd 3 rfl :)
        have hy := ky 3 10 false (by decide) rfl dg
        rw [if_neg (by simp [Region.wanted, hy])]
        exact ⟨Below.refl _ _, rfl⟩
      · intro v W ρ y hC kc kf ks ki ky ku kd
        have dg : v 3 = .bool false := (kdj kd 3 rfl :)
        have hy := ky 3 10 false (by decide) rfl dg
        rw [if_neg (by simp [Region.wanted, hy])]
        exact ⟨Below.refl _ _, rfl⟩
      · intro v W ρ y hC kc kf ks ki ky ku kd
        have dg : v 3 = .bool false := (kdj kd 3 rfl :)
        have hy := ky 3 10 false (by decide) rfl dg
        rw [if_neg (by simp [Region.wanted, hy])]
        exact ⟨Below.refl _ _, rfl⟩
      · intro v W ρ y hC kc kf ks ki ky ku kd
        have dg : v 3 = .bool false := (kdj kd 3 rfl :)
        have hy := ky 3 10 false (by decide) rfl dg
        rw [if_neg (by simp [Region.wanted, hy])]
        exact ⟨Below.refl _ _, rfl⟩
      · refine stepW_of_u ⟨rfl, fun v W ρ hC kc kf ks ki kd => ?_⟩
        have d3 : v 3 = .bool false := (kdj kd 3 rfl :)
        have t10 : ρ (.tmp 10) = .bool false := (ks 3 10 (by decide) rfl).trans d3
        simp [execOp, go_sem, kc, t10]
        exact ⟨hC, Below.refl _ _, rfl⟩
      · refine stepW_of_u ⟨rfl, fun v W ρ hC kc kf ks ki kd => ?_⟩
        have d11 : v 11 = .bool false := (kdj kd 11 rfl :)
        have t18 : ρ (.tmp 18) = .bool false := (ks 11 18 (by decide) rfl).trans d11
        simp [execOp, go_sem, kc, t18]
        exact ⟨hC, Below.refl _ _, rfl⟩
      · intro v W ρ y hC kc kf ks ki ky ku kd
        have dg : v 12 = .bool false := (kdj kd 12 rfl :)
        have hy := ky 12 19 false (by decide) rfl dg
        rw [if_neg (by simp [Region.wanted, hy])]
        exact ⟨Below.refl _ _, rfl⟩
      · intro v W ρ y hC kc kf ks ki ky ku kd
        have dg : v 12 = .bool false := (kdj kd 12 rfl :)
        have hy := ky 12 19 false (by decide) rfl dg
        rw [if_neg (by simp [Region.wanted, hy])]
        exact ⟨Below.refl _ _, rfl⟩
      · intro v W ρ y hC kc kf ks ki ky ku kd
        have dg : v 12 = .bool false := (kdj kd 12 rfl :)
        have hy := ky 12 19 false (by decide) rfl dg
        rw [if_neg (by simp [Region.wanted, hy])]
        exact ⟨Below.refl _ _, rfl⟩
      · intro v W ρ y hC kc kf ks ki ky ku kd
        have dg : v 12 = .bool false := (kdj kd 12 rfl :)
        have hy := ky 12 19 false (by decide) rfl dg
        rw [if_neg (by simp [Region.wanted, hy])]
        exact ⟨Below.refl _ _, rfl⟩
      · intro v W ρ y hC kc kf ks ki ky ku kd
        have dg : v 12 = .bool false := (kdj kd 12 rfl :)
        have hy := ky 12 19 false (by decide) rfl dg
        rw [if_neg (by simp [Region.wanted, hy])]
        exact ⟨Below.refl _ _, rfl⟩
      · intro v W ρ y hC kc kf ks ki ky ku kd
        have dg : v 12 = .bool false := (kdj kd 12 rfl :)
        have hy := ky 12 19 false (by decide) rfl dg
        rw [if_neg (by simp [Region.wanted, hy])]
        exact ⟨Below.refl _ _, rfl⟩
      · intro v W ρ y hC kc kf ks ki ky ku kd
        have dg : v 12 = .bool false := (kdj kd 12 rfl :)
        have hy := ky 12 19 false (by decide) rfl dg
        rw [if_neg (by simp [Region.wanted, hy])]
        exact ⟨Below.refl _ _, rfl⟩
      · intro v W ρ y hC kc kf ks ki ky ku kd
        have dg : v 12 = .bool false := (kdj kd 12 rfl :)
        have hy := ky 12 19 false (by decide) rfl dg
        rw [if_neg (by simp [Region.wanted, hy])]
        exact ⟨Below.refl _ _, rfl⟩
      · intro v W ρ y hC kc kf ks ki ky ku kd
        have dg : v 12 = .bool false := (kdj kd 12 rfl :)
        have hy := ky 12 19 false (by decide) rfl dg
        rw [if_neg (by simp [Region.wanted, hy])]
        exact ⟨Below.refl _ _, rfl⟩
      · intro v W ρ y hC kc kf ks ki ky ku kd
        have dg : v 12 = .bool false := (kdj kd 12 rfl :)
        have hy := ky 12 19 false (by decide) rfl dg
        rw [if_neg (by simp [Region.wanted, hy])]
        exact ⟨Below.refl _ _, rfl⟩
      · refine stepW_of_u ⟨rfl, fun v W ρ hC kc kf ks ki kd => ?_⟩
        have d12 : v 12 = .bool false := (kdj kd 12 rfl :)
        have t19 : ρ (.tmp 19) = .bool false := (ks 12 19 (by decide) rfl).trans d12
        simp [execOp, go_sem, kc, t19]
        exact ⟨hC, Below.refl _ _, rfl⟩
      · refine stepW_of_u ⟨rfl, fun v W ρ hC kc kf ks ki kd => ?_⟩
        have d23 : v 23 = .bool false := (kdj kd 23 rfl :)
        have t30 : ρ (.tmp 30) = .bool false := (ks 23 30 (by decide) rfl).trans d23
        simp [execOp, go_sem, kc, t30]
        exact ⟨hC, Below.refl _ _, rfl⟩
    intro vm0 Wm0 hbm0 hall
    have hvm0 : vm0 24 = .bool false := hall 24 (by decide)
    simp [upto, Act.put]
    rw [hvm0]
    clear hall hvm0
    go_wp2_with fail
    go_ret
    exact ⟨by rw [E.out]; rfl, HB0.out.trans (hbm0.mono HB0.out.size)⟩
  rw [hb] at HI
  obtain ⟨C, rfl, hC⟩ : ∃ C : Nat, n = (C : Int) ∧ C < s.slots.length := by
    unfold inB at hb; simp at hb; exact ⟨n.toNat, by omega, by omega⟩
  have E0 : Hid (mayB s (C : Int) c = (!decide ((s.slots.getD C zeroSlt).refs = 0) && ((s.slots.getD C zeroSlt).key.tmod s.heads.length == c))) := by show _ = _; unfold mayB; rw [hb, slot_nat]; rfl
  obtain ⟨b', o', eS, lS, d0, d1, d2, d3⟩ := hR.slots.slot hC
  have HS := hidS (fun W (h : Below w.heap.size w W) => (hR.slots.later h).slot hC)
  have hkx := hk C hC
  generalize s.slots.getD C zeroSlt = x at E0 HS hkx
  have HF := hidS (fun W => isFree_any x W)
  have HM := hidS (fun W => chainFor_any aS aH s.slots.length cS s.heads.length cH x.key W hkx.1 hkx.2 h2 h3)
  generalize x.key.tmod s.heads.length = r at HM E0
  obtain ⟨bS, oS, rfl⟩ : ∃ bS oS, aS = some ⟨bS, oS, none⟩ := ⟨_, _, eS⟩
  have hCC : (0 : Int) ≤ (C : Int) ∧ (C : Int) < (s.slots.length : Int) := by omega
  have HC := hidS hC
  clear hb hk hR eS d0 d1 d2 d3 hkx lS hC
  cases hfr : decide (x.refs = 0)
  · have E : Hid (mayB s (C : Int) c = (r == c)) := by show _ = _; rw [E0.out, hfr]; simp
    rw [hfr] at HF
    clear hfr E0
    go_enter Try.func132, Try.ntmps132
    go_wp2_with fail
    generalize w.alloc (.cells #[.slice (some ⟨bS, oS, none⟩) s.slots.length cS, .slice aH s.heads.length cH] 26) = w0 at HA HB0 ⊢
    refine grow_guarded 25 [.is (.agg #[.slice (some ⟨bS, oS, none⟩) s.slots.length cS, .slice aH s.heads.length cH]), .is (.int .i64 (C : Int)), .is (.bool true), .is (.bool true), .is (.pointer (some ⟨w.heap.size, 0, none⟩)), .is (.slice (some ⟨bS, oS, none⟩) s.slots.length cS), .is (.int .i64 (C : Int)), .is (.pointer (some ⟨bS, oS + C * 4, none⟩)), .is (.agg #[.int .i64 x.key, .int .i64 x.gen, .int .i64 x.refs, .int .i64 x.next]), .is (.bool false), .is (.bool true), .is (.bool true), .is (.bool true), .is (.agg #[.slice (some ⟨bS, oS, none⟩) s.slots.length cS, .slice aH s.heads.length cH]), .is (.pointer (some ⟨w.heap.size, 0, none⟩)), .is (.slice (some ⟨bS, oS, none⟩) s.slots.length cS), .is (.int .i64 (C : Int)), .is (.pointer (some ⟨bS, oS + C * 4, none⟩)), .is (.pointer (some ⟨bS, oS + C * 4, none⟩)), .is (.int .i64 x.key), .is (.int .i64 r), .is (.int .i64 c), .is (.bool (r == c)), .is (.bool (r == c)), .is (.bool (r == c))] rfl (by kernel_rfl) (by kernel_rfl) ?stepsmf ?finmf
    case stepsmf =>
      refine ⟨?_, ?_, ?_, ?_, ?_, ?_, ?_, ?_, ?_, ?_, ?_, ?_, ?_, ?_, ?_, ?_, ?_, ?_, ?_, ?_, ?_, ?_, ?_, ?_, ?_, trivial⟩
      · refine stepW_of_u ⟨rfl, fun v W ρ hC kc kf ks ki kd => ?_⟩
        have t3 : ρ (.tmp 3) = .pointer (some ⟨w.heap.size, 0, none⟩) := ki 3 (by decide)
        have hg := blk_later HA.out hC
        have c0 := blk_cell hg 0
        have c1 := blk_cell hg 1
        simp at c0 c1
        simp [execOp, go_sem, kc, t3, c0, c1]
        exact ⟨hC, Below.refl _ _, rfl⟩
      · refine stepW_of_u ⟨rfl, fun v W ρ hC kc kf ks ki kd => ?_⟩
        have t1 : ρ (.tmp 1) = .int .i64 (C : Int) := ki 1 (by decide)
        simp [execOp, go_sem, kc, t1]
        exact ⟨hC, Below.refl _ _, rfl⟩
      · refine stepW_of_u ⟨rfl, fun v W ρ hC kc kf ks ki kd => ?_⟩
        have d0 : v 0 = .agg #[.slice (some ⟨bS, oS, none⟩) s.slots.length cS, .slice aH s.heads.length cH] := (kdj kd 0 rfl :)
        have t7 : ρ (.tmp 7) = .agg #[.slice (some ⟨bS, oS, none⟩) s.slots.length cS, .slice aH s.heads.length cH] := (ks 0 7 (by decide) rfl).trans d0
        have d1 : v 1 = .int .i64 (C : Int) := (kdj kd 1 rfl :)
        have t8 : ρ (.tmp 8) = .int .i64 (C : Int) := (ks 1 8 (by decide) rfl).trans d1
        simp [execOp, go_sem, t7, t8, kf]
        exact Calls.mono (HI.out W) (fun e x h => ⟨_, h.1, hC.trans (h.2.mono hC.size), h.2, rfl⟩)
      · refine stepW_of_u ⟨rfl, fun v W ρ hC kc kf ks ki kd => ?_⟩
        have d2 : v 2 = .bool true := (kdj kd 2 rfl :)
        have t9 : ρ (.tmp 9) = .bool true := (ks 2 9 (by decide) rfl).trans d2
        simp [execOp, go_sem, kc, t9]
        exact ⟨hC, Below.refl _ _, rfl⟩
      · intro v W ρ y hC kc kf ks ki ky ku kd
        have dg : v 3 = .bool true := (kdj kd 3 rfl :)
        have hy := ky 3 10 true (by decide) rfl dg
        rw [if_pos (by simp [Region.wanted, hy])]
        have t3 : ρ (.tmp 3) = .pointer (some ⟨w.heap.size, 0, none⟩) := ki 3 (by decide)
        simp [execOp, go_sem, kc, t3]
        exact ⟨hC, Below.refl _ _, rfl⟩
      · intro v W ρ y hC kc kf ks ki ky ku kd
        have dg : v 3 = .bool true := (kdj kd 3 rfl :)
        have hy := ky 3 10 true (by decide) rfl dg
        rw [if_pos (by simp [Region.wanted, hy])]
        have d4 : v 4 = .pointer (some ⟨w.heap.size, 0, none⟩) := (kdj kd 4 rfl :)
        have t11 : ρ (.tmp 11) = .pointer (some ⟨w.heap.size, 0, none⟩) := (ks 4 11 (by decide) rfl).trans d4
        have hg := blk_later HA.out hC
        have c0 := blk_cell hg 0
        simp at c0
        simp [execOp, go_sem, kc, t11, c0]
        exact ⟨hC, Below.refl _ _, rfl⟩
      · intro v W ρ y hC kc kf ks ki ky ku kd
        have dg : v 3 = .bool true := (kdj kd 3 rfl :)
        have hy := ky 3 10 true (by decide) rfl dg
        rw [if_pos (by simp [Region.wanted, hy])]
        have t1 : ρ (.tmp 1) = .int .i64 (C : Int) := ki 1 (by decide)
        simp [execOp, go_sem, kc, t1]
        exact ⟨hC, Below.refl _ _, rfl⟩
      · intro v W ρ y hC kc kf ks ki ky ku kd
        have dg : v 3 = .bool true := (kdj kd 3 rfl :)
        have hy := ky 3 10 true (by decide) rfl dg
        rw [if_pos (by simp [Region.wanted, hy])]
        have d5 : v 5 = .slice (some ⟨bS, oS, none⟩) s.slots.length cS := (kdj kd 5 rfl :)
        have t12 : ρ (.tmp 12) = .slice (some ⟨bS, oS, none⟩) s.slots.length cS := (ks 5 12 (by decide) rfl).trans d5
        have d6 : v 6 = .int .i64 (C : Int) := (kdj kd 6 rfl :)
        have t13 : ρ (.tmp 13) = .int .i64 (C : Int) := (ks 6 13 (by decide) rfl).trans d6
        simp [execOp, go_sem, kc, t12, t13, hCC]
        exact ⟨hC, Below.refl _ _, rfl⟩
      · intro v W ρ y hC kc kf ks ki ky ku kd
        have dg : v 3 = .bool true := (kdj kd 3 rfl :)
        have hy := ky 3 10 true (by decide) rfl dg
        rw [if_pos (by simp [Region.wanted, hy])]
        have d7 : v 7 = .pointer (some ⟨bS, oS + C * 4, none⟩) := (kdj kd 7 rfl :)
        have t14 : ρ (.tmp 14) = .pointer (some ⟨bS, oS + C * 4, none⟩) := (ks 7 14 (by decide) rfl).trans d7
        obtain ⟨b', o', eS, lS, c0, c1, c2, c3⟩ := HS.out W (HB0.out.trans (hC.mono HB0.out.size))
        injection eS with eS; injection eS with eS1 eS2
        subst eS1 eS2
        simp [execOp, go_sem, kc, t14, c0, c1, c2, c3]
        exact ⟨hC, Below.refl _ _, rfl⟩
      · intro v W ρ y hC kc kf ks ki ky ku kd
        have dg : v 3 = .bool true := (kdj kd 3 rfl :)
        have hy := ky 3 10 true (by decide) rfl dg
        rw [if_pos (by simp [Region.wanted, hy])]
        have d8 : v 8 = .agg #[.int .i64 x.key, .int .i64 x.gen, .int .i64 x.refs, .int .i64 x.next] := (kdj kd 8 rfl :)
        have t15 : ρ (.tmp 15) = .agg #[.int .i64 x.key, .int .i64 x.gen, .int .i64 x.refs, .int .i64 x.next] := (ks 8 15 (by decide) rfl).trans d8
        simp [execOp, go_sem, t15, kf]
        exact Calls.mono (HF.out W) (fun e x h => ⟨_, h.1, hC.trans (h.2.mono hC.size), h.2, rfl⟩)
      · intro v W ρ y hC kc kf ks ki ky ku kd
        have dg : v 3 = .bool true := (kdj kd 3 rfl :)
        have hy := ky 3 10 true (by decide) rfl dg
        rw [if_pos (by simp [Region.wanted, hy])]
        have d9 : v 9 = .bool false := (kdj kd 9 rfl :)
        have t16 : ρ (.tmp 16) = .bool false := (ks 9 16 (by decide) rfl).trans d9
        simp [execOp, go_sem, kc, t16]
        exact ⟨hC, Below.refl _ _, rfl⟩
      · refine stepW_of_u ⟨rfl, fun v W ρ hC kc kf ks ki kd => ?_⟩
        have d3 : v 3 = .bool true := (kdj kd 3 rfl :)
        have t10 : ρ (.tmp 10) = .bool true := (ks 3 10 (by decide) rfl).trans d3
        have d10 : v 10 = .bool true := (kdj kd 10 rfl :)
        have t17 : ρ (.tmp 17) = .bool true := (ks 10 17 (by decide) rfl).trans d10
        simp [execOp, go_sem, kc, t10, t17]
        exact ⟨hC, Below.refl _ _, rfl⟩
      · refine stepW_of_u ⟨rfl, fun v W ρ hC kc kf ks ki kd => ?_⟩
        have d11 : v 11 = .bool true := (kdj kd 11 rfl :)
        have t18 : ρ (.tmp 18) = .bool true := (ks 11 18 (by decide) rfl).trans d11
        simp [execOp, go_sem, kc, t18]
        exact ⟨hC, Below.refl _ _, rfl⟩
      · intro v W ρ y hC kc kf ks ki ky ku kd
        have dg : v 12 = .bool true := (kdj kd 12 rfl :)
        have hy := ky 12 19 true (by decide) rfl dg
        rw [if_pos (by simp [Region.wanted, hy])]
        have t3 : ρ (.tmp 3) = .pointer (some ⟨w.heap.size, 0, none⟩) := ki 3 (by decide)
        have hg := blk_later HA.out hC
        have c0 := blk_cell hg 0
        have c1 := blk_cell hg 1
        simp at c0 c1
        simp [execOp, go_sem, kc, t3, c0, c1]
        exact ⟨hC, Below.refl _ _, rfl⟩
      · intro v W ρ y hC kc kf ks ki ky ku kd
        have dg : v 12 = .bool true := (kdj kd 12 rfl :)
        have hy := ky 12 19 true (by decide) rfl dg
        rw [if_pos (by simp [Region.wanted, hy])]
        have t3 : ρ (.tmp 3) = .pointer (some ⟨w.heap.size, 0, none⟩) := ki 3 (by decide)
        simp [execOp, go_sem, kc, t3]
        exact ⟨hC, Below.refl _ _, rfl⟩
      · intro v W ρ y hC kc kf ks ki ky ku kd
        have dg : v 12 = .bool true := (kdj kd 12 rfl :)
        have hy := ky 12 19 true (by decide) rfl dg
        rw [if_pos (by simp [Region.wanted, hy])]
        have d14 : v 14 = .pointer (some ⟨w.heap.size, 0, none⟩) := (kdj kd 14 rfl :)
        have t21 : ρ (.tmp 21) = .pointer (some ⟨w.heap.size, 0, none⟩) := (ks 14 21 (by decide) rfl).trans d14
        have hg := blk_later HA.out hC
        have c0 := blk_cell hg 0
        simp at c0
        simp [execOp, go_sem, kc, t21, c0]
        exact ⟨hC, Below.refl _ _, rfl⟩
      · intro v W ρ y hC kc kf ks ki ky ku kd
        have dg : v 12 = .bool true := (kdj kd 12 rfl :)
        have hy := ky 12 19 true (by decide) rfl dg
        rw [if_pos (by simp [Region.wanted, hy])]
        have t1 : ρ (.tmp 1) = .int .i64 (C : Int) := ki 1 (by decide)
        simp [execOp, go_sem, kc, t1]
        exact ⟨hC, Below.refl _ _, rfl⟩
      · intro v W ρ y hC kc kf ks ki ky ku kd
        have dg : v 12 = .bool true := (kdj kd 12 rfl :)
        have hy := ky 12 19 true (by decide) rfl dg
        rw [if_pos (by simp [Region.wanted, hy])]
        have d15 : v 15 = .slice (some ⟨bS, oS, none⟩) s.slots.length cS := (kdj kd 15 rfl :)
        have t22 : ρ (.tmp 22) = .slice (some ⟨bS, oS, none⟩) s.slots.length cS := (ks 15 22 (by decide) rfl).trans d15
        have d16 : v 16 = .int .i64 (C : Int) := (kdj kd 16 rfl :)
        have t23 : ρ (.tmp 23) = .int .i64 (C : Int) := (ks 16 23 (by decide) rfl).trans d16
        simp [execOp, go_sem, kc, t22, t23, hCC]
        exact ⟨hC, Below.refl _ _, rfl⟩
      · intro v W ρ y hC kc kf ks ki ky ku kd
        have dg : v 12 = .bool true := (kdj kd 12 rfl :)
        have hy := ky 12 19 true (by decide) rfl dg
        rw [if_pos (by simp [Region.wanted, hy])]
        have d17 : v 17 = .pointer (some ⟨bS, oS + C * 4, none⟩) := (kdj kd 17 rfl :)
        have t24 : ρ (.tmp 24) = .pointer (some ⟨bS, oS + C * 4, none⟩) := (ks 17 24 (by decide) rfl).trans d17
        simp [execOp, go_sem, kc, t24]
        exact ⟨hC, Below.refl _ _, rfl⟩
      · intro v W ρ y hC kc kf ks ki ky ku kd
        have dg : v 12 = .bool true := (kdj kd 12 rfl :)
        have hy := ky 12 19 true (by decide) rfl dg
        rw [if_pos (by simp [Region.wanted, hy])]
        have d18 : v 18 = .pointer (some ⟨bS, oS + C * 4, none⟩) := (kdj kd 18 rfl :)
        have t25 : ρ (.tmp 25) = .pointer (some ⟨bS, oS + C * 4, none⟩) := (ks 18 25 (by decide) rfl).trans d18
        obtain ⟨b', o', eS, lS, c0, c1, c2, c3⟩ := HS.out W (HB0.out.trans (hC.mono HB0.out.size))
        injection eS with eS; injection eS with eS1 eS2
        subst eS1 eS2
        simp [execOp, go_sem, kc, t25, c0]
        exact ⟨hC, Below.refl _ _, rfl⟩
      · intro v W ρ y hC kc kf ks ki ky ku kd
        have dg : v 12 = .bool true := (kdj kd 12 rfl :)
        have hy := ky 12 19 true (by decide) rfl dg
        rw [if_pos (by simp [Region.wanted, hy])]
        have d13 : v 13 = .agg #[.slice (some ⟨bS, oS, none⟩) s.slots.length cS, .slice aH s.heads.length cH] := (kdj kd 13 rfl :)
        have t20 : ρ (.tmp 20) = .agg #[.slice (some ⟨bS, oS, none⟩) s.slots.length cS, .slice aH s.heads.length cH] := (ks 13 20 (by decide) rfl).trans d13
        have d19 : v 19 = .int .i64 x.key := (kdj kd 19 rfl :)
        have t26 : ρ (.tmp 26) = .int .i64 x.key := (ks 19 26 (by decide) rfl).trans d19
        simp [execOp, go_sem, t20, t26, kf]
        exact Calls.mono (HM.out W) (fun e x h => ⟨_, h.1, hC.trans (h.2.mono hC.size), h.2, rfl⟩)
      · intro v W ρ y hC kc kf ks ki ky ku kd
        have dg : v 12 = .bool true := (kdj kd 12 rfl :)
        have hy := ky 12 19 true (by decide) rfl dg
        rw [if_pos (by simp [Region.wanted, hy])]
        have t2 : ρ (.tmp 2) = .int .i64 c := ki 2 (by decide)
        simp [execOp, go_sem, kc, t2]
        exact ⟨hC, Below.refl _ _, rfl⟩
      · intro v W ρ y hC kc kf ks ki ky ku kd
        have dg : v 12 = .bool true := (kdj kd 12 rfl :)
        have hy := ky 12 19 true (by decide) rfl dg
        rw [if_pos (by simp [Region.wanted, hy])]
        have d20 : v 20 = .int .i64 r := (kdj kd 20 rfl :)
        have t27 : ρ (.tmp 27) = .int .i64 r := (ks 20 27 (by decide) rfl).trans d20
        have d21 : v 21 = .int .i64 c := (kdj kd 21 rfl :)
        have t28 : ρ (.tmp 28) = .int .i64 c := (ks 21 28 (by decide) rfl).trans d21
        simp [execOp, go_sem, kc, t27, t28]
        exact ⟨hC, Below.refl _ _, rfl⟩
      · refine stepW_of_u ⟨rfl, fun v W ρ hC kc kf ks ki kd => ?_⟩
        have d12 : v 12 = .bool true := (kdj kd 12 rfl :)
        have t19 : ρ (.tmp 19) = .bool true := (ks 12 19 (by decide) rfl).trans d12
        have d22 : v 22 = .bool (r == c) := (kdj kd 22 rfl :)
        have t29 : ρ (.tmp 29) = .bool (r == c) := (ks 22 29 (by decide) rfl).trans d22
        simp [execOp, go_sem, kc, t19, t29]
        exact ⟨hC, Below.refl _ _, rfl⟩
      · refine stepW_of_u ⟨rfl, fun v W ρ hC kc kf ks ki kd => ?_⟩
        have d23 : v 23 = .bool (r == c) := (kdj kd 23 rfl :)
        have t30 : ρ (.tmp 30) = .bool (r == c) := (ks 23 30 (by decide) rfl).trans d23
        simp [execOp, go_sem, kc, t30]
        exact ⟨hC, Below.refl _ _, rfl⟩
    intro vmf Wmf hbmf hall
    have hvmf : vmf 24 = .bool (r == c) := hall 24 (by decide)
    simp [upto, Act.put]
    rw [hvmf]
    clear hall hvmf
    go_wp2_with fail
    go_ret
    exact ⟨by rw [E.out]; rfl, HB0.out.trans (hbmf.mono HB0.out.size)⟩
  · have E : Hid (mayB s (C : Int) c = false) := by show _ = _; rw [E0.out, hfr]; simp
    rw [hfr] at HF
    clear hfr E0
    go_enter Try.func132, Try.ntmps132
    go_wp2_with fail
    generalize w.alloc (.cells #[.slice (some ⟨bS, oS, none⟩) s.slots.length cS, .slice aH s.heads.length cH] 26) = w0 at HA HB0 ⊢
    refine grow_guarded 25 [.is (.agg #[.slice (some ⟨bS, oS, none⟩) s.slots.length cS, .slice aH s.heads.length cH]), .is (.int .i64 (C : Int)), .is (.bool true), .is (.bool true), .is (.pointer (some ⟨w.heap.size, 0, none⟩)), .is (.slice (some ⟨bS, oS, none⟩) s.slots.length cS), .is (.int .i64 (C : Int)), .is (.pointer (some ⟨bS, oS + C * 4, none⟩)), .is (.agg #[.int .i64 x.key, .int .i64 x.gen, .int .i64 x.refs, .int .i64 x.next]), .is (.bool true), .is (.bool false), .is (.bool false), .is (.bool false), .is (undef), .is (undef), .is (undef), .is (undef), .is (undef), .is (undef), .is (undef), .is (undef), .is (undef), .is (undef), .is (.bool false), .is (.bool false)] rfl (by kernel_rfl) (by kernel_rfl) ?stepsmt ?finmt
    case stepsmt =>
      refine ⟨?_, ?_, ?_, ?_, ?_, ?_, ?_, ?_, ?_, ?_, ?_, ?_, ?_, ?_, ?_, ?_, ?_, ?_, ?_, ?_, ?_, ?_, ?_, ?_, ?_, trivial⟩
      · refine stepW_of_u ⟨rfl, fun v W ρ hC kc kf ks ki kd => ?_⟩
        have t3 : ρ (.tmp 3) = .pointer (some ⟨w.heap.size, 0, none⟩) := ki 3 (by decide)
        have hg := blk_later HA.out hC
        have c0 := blk_cell hg 0
        have c1 := blk_cell hg 1
        simp at c0 c1
        simp [execOp, go_sem, kc, t3, c0, c1]
        exact ⟨hC, Below.refl _ _, rfl⟩
      · refine stepW_of_u ⟨rfl, fun v W ρ hC kc kf ks ki kd => ?_⟩
        have t1 : ρ (.tmp 1) = .int .i64 (C : Int) := ki 1 (by decide)
        simp [execOp, go_sem, kc, t1]
        exact ⟨hC, Below.refl _ _, rfl⟩
      · refine stepW_of_u ⟨rfl, fun v W ρ hC kc kf ks ki kd => ?_⟩
        have d0 : v 0 = .agg #[.slice (some ⟨bS, oS, none⟩) s.slots.length cS, .slice aH s.heads.length cH] := (kdj kd 0 rfl :)
        have t7 : ρ (.tmp 7) = .agg #[.slice (some ⟨bS, oS, none⟩) s.slots.length cS, .slice aH s.heads.length cH] := (ks 0 7 (by decide) rfl).trans d0
        have d1 : v 1 = .int .i64 (C : Int) := (kdj kd 1 rfl :)
        have t8 : ρ (.tmp 8) = .int .i64 (C : Int) := (ks 1 8 (by decide) rfl).trans d1
        simp [execOp, go_sem, t7, t8, kf]
        exact Calls.mono (HI.out W) (fun e x h => ⟨_, h.1, hC.trans (h.2.mono hC.size), h.2, rfl⟩)
      · refine stepW_of_u ⟨rfl, fun v W ρ hC kc kf ks ki kd => ?_⟩
        have d2 : v 2 = .bool true := (kdj kd 2 rfl :)
        have t9 : ρ (.tmp 9) = .bool true := (ks 2 9 (by decide) rfl).trans d2
        simp [execOp, go_sem, kc, t9]
        exact ⟨hC, Below.refl _ _, rfl⟩
      · intro v W ρ y hC kc kf ks ki ky ku kd
        have dg : v 3 = .bool true := (kdj kd 3 rfl :)
        have hy := ky 3 10 true (by decide) rfl dg
        rw [if_pos (by simp [Region.wanted, hy])]
        have t3 : ρ (.tmp 3) = .pointer (some ⟨w.heap.size, 0, none⟩) := ki 3 (by decide)
        simp [execOp, go_sem, kc, t3]
        exact ⟨hC, Below.refl _ _, rfl⟩
      · intro v W ρ y hC kc kf ks ki ky ku kd
        have dg : v 3 = .bool true := (kdj kd 3 rfl :)
        have hy := ky 3 10 true (by decide) rfl dg
        rw [if_pos (by simp [Region.wanted, hy])]
        have d4 : v 4 = .pointer (some ⟨w.heap.size, 0, none⟩) := (kdj kd 4 rfl :)
        have t11 : ρ (.tmp 11) = .pointer (some ⟨w.heap.size, 0, none⟩) := (ks 4 11 (by decide) rfl).trans d4
        have hg := blk_later HA.out hC
        have c0 := blk_cell hg 0
        simp at c0
        simp [execOp, go_sem, kc, t11, c0]
        exact ⟨hC, Below.refl _ _, rfl⟩
      · intro v W ρ y hC kc kf ks ki ky ku kd
        have dg : v 3 = .bool true := (kdj kd 3 rfl :)
        have hy := ky 3 10 true (by decide) rfl dg
        rw [if_pos (by simp [Region.wanted, hy])]
        have t1 : ρ (.tmp 1) = .int .i64 (C : Int) := ki 1 (by decide)
        simp [execOp, go_sem, kc, t1]
        exact ⟨hC, Below.refl _ _, rfl⟩
      · intro v W ρ y hC kc kf ks ki ky ku kd
        have dg : v 3 = .bool true := (kdj kd 3 rfl :)
        have hy := ky 3 10 true (by decide) rfl dg
        rw [if_pos (by simp [Region.wanted, hy])]
        have d5 : v 5 = .slice (some ⟨bS, oS, none⟩) s.slots.length cS := (kdj kd 5 rfl :)
        have t12 : ρ (.tmp 12) = .slice (some ⟨bS, oS, none⟩) s.slots.length cS := (ks 5 12 (by decide) rfl).trans d5
        have d6 : v 6 = .int .i64 (C : Int) := (kdj kd 6 rfl :)
        have t13 : ρ (.tmp 13) = .int .i64 (C : Int) := (ks 6 13 (by decide) rfl).trans d6
        simp [execOp, go_sem, kc, t12, t13, hCC]
        exact ⟨hC, Below.refl _ _, rfl⟩
      · intro v W ρ y hC kc kf ks ki ky ku kd
        have dg : v 3 = .bool true := (kdj kd 3 rfl :)
        have hy := ky 3 10 true (by decide) rfl dg
        rw [if_pos (by simp [Region.wanted, hy])]
        have d7 : v 7 = .pointer (some ⟨bS, oS + C * 4, none⟩) := (kdj kd 7 rfl :)
        have t14 : ρ (.tmp 14) = .pointer (some ⟨bS, oS + C * 4, none⟩) := (ks 7 14 (by decide) rfl).trans d7
        obtain ⟨b', o', eS, lS, c0, c1, c2, c3⟩ := HS.out W (HB0.out.trans (hC.mono HB0.out.size))
        injection eS with eS; injection eS with eS1 eS2
        subst eS1 eS2
        simp [execOp, go_sem, kc, t14, c0, c1, c2, c3]
        exact ⟨hC, Below.refl _ _, rfl⟩
      · intro v W ρ y hC kc kf ks ki ky ku kd
        have dg : v 3 = .bool true := (kdj kd 3 rfl :)
        have hy := ky 3 10 true (by decide) rfl dg
        rw [if_pos (by simp [Region.wanted, hy])]
        have d8 : v 8 = .agg #[.int .i64 x.key, .int .i64 x.gen, .int .i64 x.refs, .int .i64 x.next] := (kdj kd 8 rfl :)
        have t15 : ρ (.tmp 15) = .agg #[.int .i64 x.key, .int .i64 x.gen, .int .i64 x.refs, .int .i64 x.next] := (ks 8 15 (by decide) rfl).trans d8
        simp [execOp, go_sem, t15, kf]
        exact Calls.mono (HF.out W) (fun e x h => ⟨_, h.1, hC.trans (h.2.mono hC.size), h.2, rfl⟩)
      · intro v W ρ y hC kc kf ks ki ky ku kd
        have dg : v 3 = .bool true := (kdj kd 3 rfl :)
        have hy := ky 3 10 true (by decide) rfl dg
        rw [if_pos (by simp [Region.wanted, hy])]
        have d9 : v 9 = .bool true := (kdj kd 9 rfl :)
        have t16 : ρ (.tmp 16) = .bool true := (ks 9 16 (by decide) rfl).trans d9
        simp [execOp, go_sem, kc, t16]
        exact ⟨hC, Below.refl _ _, rfl⟩
      · refine stepW_of_u ⟨rfl, fun v W ρ hC kc kf ks ki kd => ?_⟩
        have d3 : v 3 = .bool true := (kdj kd 3 rfl :)
        have t10 : ρ (.tmp 10) = .bool true := (ks 3 10 (by decide) rfl).trans d3
        have d10 : v 10 = .bool false := (kdj kd 10 rfl :)
        have t17 : ρ (.tmp 17) = .bool false := (ks 10 17 (by decide) rfl).trans d10
        simp [execOp, go_sem, kc, t10, t17]
        exact ⟨hC, Below.refl _ _, rfl⟩
      · refine stepW_of_u ⟨rfl, fun v W ρ hC kc kf ks ki kd => ?_⟩
        have d11 : v 11 = .bool false := (kdj kd 11 rfl :)
        have t18 : ρ (.tmp 18) = .bool false := (ks 11 18 (by decide) rfl).trans d11
        simp [execOp, go_sem, kc, t18]
        exact ⟨hC, Below.refl _ _, rfl⟩
      · intro v W ρ y hC kc kf ks ki ky ku kd
        have dg : v 12 = .bool false := (kdj kd 12 rfl :)
        have hy := ky 12 19 false (by decide) rfl dg
        rw [if_neg (by simp [Region.wanted, hy])]
        exact ⟨Below.refl _ _, rfl⟩
      · intro v W ρ y hC kc kf ks ki ky ku kd
        have dg : v 12 = .bool false := (kdj kd 12 rfl :)
        have hy := ky 12 19 false (by decide) rfl dg
        rw [if_neg (by simp [Region.wanted, hy])]
        exact ⟨Below.refl _ _, rfl⟩
      · intro v W ρ y hC kc kf ks ki ky ku kd
        have dg : v 12 = .bool false := (kdj kd 12 rfl :)
        have hy := ky 12 19 false (by decide) rfl dg
        rw [if_neg (by simp [Region.wanted, hy])]
        exact ⟨Below.refl _ _, rfl⟩
      · intro v W ρ y hC kc kf ks ki ky ku kd
        have dg : v 12 = .bool false := (kdj kd 12 rfl :)
        have hy := ky 12 19 false (by decide) rfl dg
        rw [if_neg (by simp [Region.wanted, hy])]
        exact ⟨Below.refl _ _, rfl⟩
      · intro v W ρ y hC kc kf ks ki ky ku kd
        have dg : v 12 = .bool false := (kdj kd 12 rfl :)
        have hy := ky 12 19 false (by decide) rfl dg
        rw [if_neg (by simp [Region.wanted, hy])]
        exact ⟨Below.refl _ _, rfl⟩
      · intro v W ρ y hC kc kf ks ki ky ku kd
        have dg : v 12 = .bool false := (kdj kd 12 rfl :)
        have hy := ky 12 19 false (by decide) rfl dg
        rw [if_neg (by simp [Region.wanted, hy])]
        exact ⟨Below.refl _ _, rfl⟩
      · intro v W ρ y hC kc kf ks ki ky ku kd
        have dg : v 12 = .bool false := (kdj kd 12 rfl :)
        have hy := ky 12 19 false (by decide) rfl dg
        rw [if_neg (by simp [Region.wanted, hy])]
        exact ⟨Below.refl _ _, rfl⟩
      · intro v W ρ y hC kc kf ks ki ky ku kd
        have dg : v 12 = .bool false := (kdj kd 12 rfl :)
        have hy := ky 12 19 false (by decide) rfl dg
        rw [if_neg (by simp [Region.wanted, hy])]
        exact ⟨Below.refl _ _, rfl⟩
      · intro v W ρ y hC kc kf ks ki ky ku kd
        have dg : v 12 = .bool false := (kdj kd 12 rfl :)
        have hy := ky 12 19 false (by decide) rfl dg
        rw [if_neg (by simp [Region.wanted, hy])]
        exact ⟨Below.refl _ _, rfl⟩
      · intro v W ρ y hC kc kf ks ki ky ku kd
        have dg : v 12 = .bool false := (kdj kd 12 rfl :)
        have hy := ky 12 19 false (by decide) rfl dg
        rw [if_neg (by simp [Region.wanted, hy])]
        exact ⟨Below.refl _ _, rfl⟩
      · refine stepW_of_u ⟨rfl, fun v W ρ hC kc kf ks ki kd => ?_⟩
        have d12 : v 12 = .bool false := (kdj kd 12 rfl :)
        have t19 : ρ (.tmp 19) = .bool false := (ks 12 19 (by decide) rfl).trans d12
        simp [execOp, go_sem, kc, t19]
        exact ⟨hC, Below.refl _ _, rfl⟩
      · refine stepW_of_u ⟨rfl, fun v W ρ hC kc kf ks ki kd => ?_⟩
        have d23 : v 23 = .bool false := (kdj kd 23 rfl :)
        have t30 : ρ (.tmp 30) = .bool false := (ks 23 30 (by decide) rfl).trans d23
        simp [execOp, go_sem, kc, t30]
        exact ⟨hC, Below.refl _ _, rfl⟩
    intro vmt Wmt hbmt hall
    have hvmt : vmt 24 = .bool false := hall 24 (by decide)
    simp [upto, Act.put]
    rw [hvmt]
    clear hall hvmt
    go_wp2_with fail
    go_ret
    exact ⟨by rw [E.out]; rfl, HB0.out.trans (hbmt.mono HB0.out.size)⟩
end Go.Proofs.Ytfjgofmjhccdkaa
