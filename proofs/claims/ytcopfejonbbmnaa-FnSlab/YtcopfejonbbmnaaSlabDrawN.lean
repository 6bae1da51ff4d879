/- Proved here: spec.DrawSlabNew answers two numbers; all old memory stays (conditions: the bytes can be read; at most 2^20). -/
import Derived.Test.YtcopfejonbbmnaaSlabDrawD
namespace Go.Proofs.Ytcopfejonbbmnaa
open Go.ChangeShapes Go.WideShapes Go.ChangeAt Go.RowKit
set_option linter.unusedVariables false
set_option linter.unusedSimpArgs false
set_option maxRecDepth 100000

/-- two drawn numbers -/
def SomeTwo (w : World) (e : Ending) (w' : World) : Prop := ∃ n m : Int, e = .returned (.tuple #[.int .i64 n, .int .i64 m]) ∧ Below w.heap.size w w'
set_option maxHeartbeats 4000000 in
theorem drawSlabNew_any (a : Option Addr) (len cap : Nat) (w : World) (hR : RowAt w.heap.size a len w) (hl : len ≤ 1048576) :
    Calls Try.prog 13 #[.slice a len cap] w fun e w' => SomeTwo w e w' := by
  have HSO := hidS (source_any a len cap w hR hl)
  clear hR
  go_enter Try.func13, Try.ntmps13
  go_wp2_with fail
  refine HSO.out.mono ?_
  rintro _ w2 ⟨rfl, hS2, hb2⟩
  have HS2 := hidS hS2
  have HB2 := hidS hb2
  clear hS2 hb2 HSO
  go_wp2_with fail
  refine (srcOne_any w.heap.size a len cap 3 _ HS2.out (by omega)).mono ?_
  rintro _ w3 ⟨c, rfl, hS3, hO3⟩
  have HS3 := hidS hS3
  have HB3 := hidS (HB2.out.trans hO3.below)
  have hlt := hS3.lt
  clear hS3 hO3 HS2 HB2
  cases c
  · go_wp2_with fail
    refine (srcN_any w.heap.size a len cap 9 _ HS3.out (by omega)).mono ?_
    rintro _ w4 ⟨r, rfl, r0, r1, hS4, hO4⟩
    have HS4 := hidS hS4
    have HB4 := hidS (HB3.out.trans hO4.below)
    clear hS4 hO4 HS3 HB3
    have r2 : r < 9 := by omega
    clear r1
    go_wp2_with fail
    refine (srcN_any w.heap.size a len cap 4 _ HS4.out (by omega)).mono ?_
    rintro _ w5 ⟨q, rfl, q0, q1, hS5, hO5⟩
    have HB5 := hidS (HB4.out.trans hO5.below)
    clear hS5 hO5 HS4 HB4
    have q2 : q < 4 := by omega
    clear q1
    go_wp2_with fail
    exact bodyPost_ret (v := .tuple #[.int .i64 (1 + r), .int .i64 (1 + q)]) (by simp [results, Try.results13, go_sem]) rfl ⟨1 + r, 1 + q, rfl, HB5.out⟩
  · obtain ⟨m0, hm0⟩ : ∃ m0, w3.heap.size = m0 := ⟨_, rfl⟩
    have HM0 : Hid (m0 ≤ w3.heap.size ∧ w.heap.size < m0) := hidS ⟨by omega, by omega⟩
    clear hm0 hlt
    go_wp2_with fail
    have KEEP : Hid (∀ i v W W', kpOf [rowZ 4 [0, 1, 24, 25] m0, isP (.pointer (some ⟨w.heap.size, 0, none⟩)), (fun v _ => ∃ r : Int, v = .int .i64 r ∧ 0 ≤ r ∧ r < 4), ptrZ 4 [0, 1, 24, 25] m0, (fun v _ => ∃ r : Int, v = .int .i64 r), rowZ 4 [0, 1, 4, 5] m0, isP (.pointer (some ⟨w.heap.size, 0, none⟩)), (fun v _ => ∃ r : Int, v = .int .i64 r ∧ 0 ≤ r ∧ r < 4), ptrZ 4 [0, 1, 4, 5] m0, (fun v _ => ∃ r : Int, v = .int .i64 r), (fun v _ => ∃ r : Int, v = .int .i64 r), (fun v _ => ∃ r : Int, v = .int .i64 r)] i v W → Up m0 W W' → kpOf [rowZ 4 [0, 1, 24, 25] m0, isP (.pointer (some ⟨w.heap.size, 0, none⟩)), (fun v _ => ∃ r : Int, v = .int .i64 r ∧ 0 ≤ r ∧ r < 4), ptrZ 4 [0, 1, 24, 25] m0, (fun v _ => ∃ r : Int, v = .int .i64 r), rowZ 4 [0, 1, 4, 5] m0, isP (.pointer (some ⟨w.heap.size, 0, none⟩)), (fun v _ => ∃ r : Int, v = .int .i64 r ∧ 0 ≤ r ∧ r < 4), ptrZ 4 [0, 1, 4, 5] m0, (fun v _ => ∃ r : Int, v = .int .i64 r), (fun v _ => ∃ r : Int, v = .int .i64 r), (fun v _ => ∃ r : Int, v = .int .i64 r)] i v W') := by
      refine hidS (fun i v W W' h hr => ?_)
      match i, h with
      | 0, h => exact rowZ_last h hr
      | 1, h => exact h
      | 2, h => exact h
      | 3, h => exact ptrZ_last h hr
      | 4, h => exact h
      | 5, h => exact rowZ_last h hr
      | 6, h => exact h
      | 7, h => exact h
      | 8, h => exact ptrZ_last h hr
      | 9, h => exact h
      | 10, h => exact h
      | 11, h => exact h
      | n + 12, h => exact (trivial : True)
    refine grow_res (fun W => Src w.heap.size a len cap W ∧ m0 ≤ W.heap.size ∧ w.heap.size < m0 ∧ Below w.heap.size w W) (fun W W' => Up m0 W W') (kpOf [rowZ 4 [0, 1, 24, 25] m0, isP (.pointer (some ⟨w.heap.size, 0, none⟩)), (fun v _ => ∃ r : Int, v = .int .i64 r ∧ 0 ≤ r ∧ r < 4), ptrZ 4 [0, 1, 24, 25] m0, (fun v _ => ∃ r : Int, v = .int .i64 r), rowZ 4 [0, 1, 4, 5] m0, isP (.pointer (some ⟨w.heap.size, 0, none⟩)), (fun v _ => ∃ r : Int, v = .int .i64 r ∧ 0 ≤ r ∧ r < 4), ptrZ 4 [0, 1, 4, 5] m0, (fun v _ => ∃ r : Int, v = .int .i64 r), (fun v _ => ∃ r : Int, v = .int .i64 r), (fun v _ => ∃ r : Int, v = .int .i64 r)]) (by kernel_rfl) (by kernel_rfl) KEEP.out ⟨HS3.out.kept fun _ _ => rfl, HM0.out.1, HM0.out.2, HB3.out.drew⟩ ?stepsn ?finn
    case stepsn =>
      refine ⟨?_, ?_, ?_, ?_, ?_, ?_, ?_, ?_, ?_, ?_, ?_, ?_, trivial⟩
      · refine ⟨rfl, fun v W ρ hC kc kf ks ki kd => ?_⟩
        have hg' := World.grownBy_alloc W (.cells #[.int .i64 0, .int .i64 1, .int .i64 24, .int .i64 25] 2) (some w.heap.size)
        simp [execOp, go_sem, kc]
        simp only [RanS]
        refine ⟨⟨hC.1.kept fun k hk => Below.heap_alloc _ _ _ (by have := hC.1.lt; omega), by simp; have := hC.2.1; omega, hC.2.2.1, hC.2.2.2.alloc hC.2.2.2.size _⟩, fun k hk _ => Below.heap_alloc _ _ _ hk, W.heap.size, rfl, hC.2.1, heap_newG W (.cells #[.int .i64 0, .int .i64 1, .int .i64 24, .int .i64 25] 2)⟩
      · refine ⟨rfl, fun v W ρ hC kc kf ks ki kd => ?_⟩
        have t4 : ρ (.tmp 4) = .pointer (some ⟨w.heap.size, 0, none⟩) := ki 4 (by decide)
        simp [execOp, go_sem, t4]
        simp only [RanS]
        exact ⟨hC, (fun _ _ _ => rfl), rfl⟩
      · refine ⟨rfl, fun v W ρ hC kc kf ks ki kd => ?_⟩
        have d : v 1 = .pointer (some ⟨w.heap.size, 0, none⟩) := by first | exact kd _ (mem0 rfl) rfl | exact kd _ (mem1 rfl) rfl | exact kd _ (mem2 rfl) rfl
        have tt : ρ (.tmp 11) = .pointer (some ⟨w.heap.size, 0, none⟩) := (ks 1 11 (by decide) rfl).trans d
        simp [execOp, go_sem, tt, kf, kc]
        simp only [RanS]
        refine (srcN_any w.heap.size a len cap 4 W hC.1 (by omega)).mono fun e W' h => ?_
        obtain ⟨r, rfl, r0, r1, hS', hO'⟩ := h
        have hsz := hO'.size
        exact ⟨_, rfl, ⟨hS', by have := hC.2.1; omega, hC.2.2.1, hC.2.2.2.trans hO'.below⟩, fun k hk hm => hO'.block k (by have := hC.2.2.1; omega), r, rfl, r0, by omega⟩
      · refine ⟨rfl, fun v W ρ hC kc kf ks ki kd => ?_⟩
        obtain ⟨g, eg, hm, hz⟩ : rowZ 4 [0, 1, 24, 25] m0 (v 0) W := by first | exact kd _ (mem0 rfl) rfl | exact kd _ (mem1 rfl) rfl | exact kd _ (mem2 rfl) rfl
        obtain ⟨r, er, r0, r1⟩ : ∃ r : Int, v 2 = .int .i64 r ∧ 0 ≤ r ∧ r < 4 := by first | exact kd _ (mem0 rfl) rfl | exact kd _ (mem1 rfl) rfl | exact kd _ (mem2 rfl) rfl
        obtain ⟨i, rfl⟩ : ∃ i : Nat, r = (i : Int) := ⟨r.toNat, by omega⟩
        have hii : (0 : Int) ≤ (i : Int) ∧ (i : Int) < 4 := ⟨r0, r1⟩
        have ta : ρ (.tmp 10) = .slice (some ⟨g, 0, none⟩) 4 4 := (ks 0 10 (by decide) rfl).trans eg
        have tb : ρ (.tmp 12) = .int .i64 (i : Int) := (ks 2 12 (by decide) rfl).trans er
        simp [execOp, go_sem, ta, tb, hii]
        simp only [RanS]
        exact ⟨hC, (fun _ _ _ => rfl), g, i, rfl, by omega, hm, hz⟩
      · refine ⟨rfl, fun v W ρ hC kc kf ks ki kd => ?_⟩
        obtain ⟨g, i, eg, hi, hm, hz⟩ : ptrZ 4 [0, 1, 24, 25] m0 (v 3) W := by first | exact kd _ (mem0 rfl) rfl | exact kd _ (mem1 rfl) rfl | exact kd _ (mem2 rfl) rfl
        have ta : ρ (.tmp 13) = .pointer (some ⟨g, i, none⟩) := (ks 3 13 (by decide) rfl).trans eg
        have e0 := (blk_cell hz i).trans (intCells_get [0, 1, 24, 25] i (by simpa using hi))
        simp [execOp, go_sem, ta, e0]
        simp only [RanS]
        exact ⟨hC, (fun _ _ _ => rfl), _, rfl⟩
      · refine ⟨rfl, fun v W ρ hC kc kf ks ki kd => ?_⟩
        have hg' := World.grownBy_alloc W (.cells #[.int .i64 0, .int .i64 1, .int .i64 4, .int .i64 5] 2) (some w.heap.size)
        simp [execOp, go_sem, kc]
        simp only [RanS]
        refine ⟨⟨hC.1.kept fun k hk => Below.heap_alloc _ _ _ (by have := hC.1.lt; omega), by simp; have := hC.2.1; omega, hC.2.2.1, hC.2.2.2.alloc hC.2.2.2.size _⟩, fun k hk _ => Below.heap_alloc _ _ _ hk, W.heap.size, rfl, hC.2.1, heap_newG W (.cells #[.int .i64 0, .int .i64 1, .int .i64 4, .int .i64 5] 2)⟩
      · refine ⟨rfl, fun v W ρ hC kc kf ks ki kd => ?_⟩
        have t4 : ρ (.tmp 4) = .pointer (some ⟨w.heap.size, 0, none⟩) := ki 4 (by decide)
        simp [execOp, go_sem, t4]
        simp only [RanS]
        exact ⟨hC, (fun _ _ _ => rfl), rfl⟩
      · refine ⟨rfl, fun v W ρ hC kc kf ks ki kd => ?_⟩
        have d : v 6 = .pointer (some ⟨w.heap.size, 0, none⟩) := by first | exact kd _ (mem0 rfl) rfl | exact kd _ (mem1 rfl) rfl | exact kd _ (mem2 rfl) rfl
        have tt : ρ (.tmp 16) = .pointer (some ⟨w.heap.size, 0, none⟩) := (ks 6 16 (by decide) rfl).trans d
        simp [execOp, go_sem, tt, kf, kc]
        simp only [RanS]
        refine (srcN_any w.heap.size a len cap 4 W hC.1 (by omega)).mono fun e W' h => ?_
        obtain ⟨r, rfl, r0, r1, hS', hO'⟩ := h
        have hsz := hO'.size
        exact ⟨_, rfl, ⟨hS', by have := hC.2.1; omega, hC.2.2.1, hC.2.2.2.trans hO'.below⟩, fun k hk hm => hO'.block k (by have := hC.2.2.1; omega), r, rfl, r0, by omega⟩
      · refine ⟨rfl, fun v W ρ hC kc kf ks ki kd => ?_⟩
        obtain ⟨g, eg, hm, hz⟩ : rowZ 4 [0, 1, 4, 5] m0 (v 5) W := by first | exact kd _ (mem0 rfl) rfl | exact kd _ (mem1 rfl) rfl | exact kd _ (mem2 rfl) rfl
        obtain ⟨r, er, r0, r1⟩ : ∃ r : Int, v 7 = .int .i64 r ∧ 0 ≤ r ∧ r < 4 := by first | exact kd _ (mem0 rfl) rfl | exact kd _ (mem1 rfl) rfl | exact kd _ (mem2 rfl) rfl
        obtain ⟨i, rfl⟩ : ∃ i : Nat, r = (i : Int) := ⟨r.toNat, by omega⟩
        have hii : (0 : Int) ≤ (i : Int) ∧ (i : Int) < 4 := ⟨r0, r1⟩
        have ta : ρ (.tmp 15) = .slice (some ⟨g, 0, none⟩) 4 4 := (ks 5 15 (by decide) rfl).trans eg
        have tb : ρ (.tmp 17) = .int .i64 (i : Int) := (ks 7 17 (by decide) rfl).trans er
        simp [execOp, go_sem, ta, tb, hii]
        simp only [RanS]
        exact ⟨hC, (fun _ _ _ => rfl), g, i, rfl, by omega, hm, hz⟩
      · refine ⟨rfl, fun v W ρ hC kc kf ks ki kd => ?_⟩
        obtain ⟨g, i, eg, hi, hm, hz⟩ : ptrZ 4 [0, 1, 4, 5] m0 (v 8) W := by first | exact kd _ (mem0 rfl) rfl | exact kd _ (mem1 rfl) rfl | exact kd _ (mem2 rfl) rfl
        have ta : ρ (.tmp 18) = .pointer (some ⟨g, i, none⟩) := (ks 8 18 (by decide) rfl).trans eg
        have e0 := (blk_cell hz i).trans (intCells_get [0, 1, 4, 5] i (by simpa using hi))
        simp [execOp, go_sem, ta, e0]
        simp only [RanS]
        exact ⟨hC, (fun _ _ _ => rfl), _, rfl⟩
      · refine ⟨rfl, fun v W ρ hC kc kf ks ki kd => ?_⟩
        obtain ⟨r, er⟩ : ∃ r : Int, v 4 = .int .i64 r := by first | exact kd _ (mem0 rfl) rfl | exact kd _ (mem1 rfl) rfl | exact kd _ (mem2 rfl) rfl
        have tt : ρ (.tmp 14) = .int .i64 r := (ks 4 14 (by decide) rfl).trans er
        simp [execOp, go_sem, tt]
        simp only [RanS]
        exact ⟨hC, (fun _ _ _ => rfl), r, rfl⟩
      · refine ⟨rfl, fun v W ρ hC kc kf ks ki kd => ?_⟩
        obtain ⟨r, er⟩ : ∃ r : Int, v 9 = .int .i64 r := by first | exact kd _ (mem0 rfl) rfl | exact kd _ (mem1 rfl) rfl | exact kd _ (mem2 rfl) rfl
        have tt : ρ (.tmp 19) = .int .i64 r := (ks 9 19 (by decide) rfl).trans er
        simp [execOp, go_sem, tt]
        simp only [RanS]
        exact ⟨hC, (fun _ _ _ => rfl), r, rfl⟩
    intro vn W6 hC hall
    obtain ⟨p, ep⟩ : ∃ r : Int, vn 10 = .int .i64 r := hall 10 (by decide)
    obtain ⟨q, eq⟩ : ∃ r : Int, vn 11 = .int .i64 r := hall 11 (by decide)
    have HB6 := hidS hC.2.2.2
    simp [upto, Act.put]
    rw [ep, eq]
    clear hC hall ep eq KEEP
    go_wp2_with fail
    exact bodyPost_ret (v := .tuple #[.int .i64 p, .int .i64 q]) (by simp [results, Try.results13, go_sem]) rfl ⟨p, q, rfl, HB6.out⟩
end Go.Proofs.Ytcopfejonbbmnaa
