/- Proved here: spec.l06Linked answers whether a slot of a right slab is linked; all old memory stays (conditions: the slab's rows can be read). -/
import Derived.Test.YtjhkaideckgffaaSlabDefs
import Derived.Test.YtjhkaideckgffaaSlabFindS
namespace Go.Proofs.Ytjhkaideckgffaa
open Go.ChangeShapes Go.WideShapes Go.ChangeAt Go.RowKit
set_option linter.unusedVariables false
set_option linter.unusedSimpArgs false
set_option maxRecDepth 100000

set_option maxHeartbeats 4000000 in
theorem l06Linked_any (bS oS : Nat) (aH : Option Addr) (cS cH : Nat) (s : Slb) (C : Nat) (w : World) (hR : SlabZ (some ⟨bS, oS, none⟩) aH s w) (hr : rightSl s = true) (hC : C < s.slots.length) :
    Calls Try.prog 54 #[.agg #[.slice (some ⟨bS, oS, none⟩) s.slots.length cS, .slice aH s.heads.length cH], .int .i64 (C : Int)] w fun e w' => e = .returned (.bool (linkedB s (C : Int))) ∧ Below w.heap.size w w' := by
  obtain ⟨hLe, n1, n2, n3, n4⟩ := right_leads hr
  obtain ⟨x, hx⟩ : ∃ x, s.slots.getD C zeroSlt = x := ⟨_, rfl⟩
  have hk := key_nat hr hC
  rw [hx] at hk
  have EX : Hid (slotN s (C : Int) = x) := by show _ = _; rw [slot_nat]; exact hx
  have HF := hidS (fun W (h : Below w.heap.size w W) => l06Find_any (some ⟨bS, oS, none⟩) aH cS cH s x.key W (hR.later h) hLe n2 n4 n3 hk)
  have EB : Hid (linkedB s (C : Int) = (findSl s x.key == (C : Int))) := by show _ = _; unfold linkedB; rw [EX.out]
  rw [EB.out]
  clear EB
  generalize findSl s x.key = f at HF ⊢
  have HR := hidS hR
  have hCC : (0 : Int) ≤ (C : Int) ∧ (C : Int) < (s.slots.length : Int) := by omega
  have HA := hidS (heap_newG w (.cells #[.slice (some ⟨bS, oS, none⟩) s.slots.length cS, .slice aH s.heads.length cH] 32))
  have HB0 := hidS ((Below.refl w.heap.size w).alloc (Nat.le_refl _) (.cells #[.slice (some ⟨bS, oS, none⟩) s.slots.length cS, .slice aH s.heads.length cH] 32))
  clear hR hr hLe
  go_enter Try.func54, Try.ntmps54
  go_wp2_with fail
  generalize w.alloc (.cells #[.slice (some ⟨bS, oS, none⟩) s.slots.length cS, .slice aH s.heads.length cH] 32) = w0 at HA HB0 ⊢
  refine grow_guarded 11 [.is (.agg #[.slice (some ⟨bS, oS, none⟩) s.slots.length cS, .slice aH s.heads.length cH]), .is (.pointer (some ⟨w.heap.size, 0, none⟩)), .is (.slice (some ⟨bS, oS, none⟩) s.slots.length cS), .is (.int .i64 (C : Int)), .is (.pointer (some ⟨bS, oS + C * 4, none⟩)), .is (.pointer (some ⟨bS, oS + C * 4, none⟩)), .is (.int .i64 x.key), .is (.int .i64 f), .is (.int .i64 (C : Int)), .is (.bool (f == (C : Int))), .is (.bool (f == (C : Int)))] rfl (by kernel_rfl) (by kernel_rfl) ?steps1 ?fin1
  case steps1 =>
    refine ⟨?_, ?_, ?_, ?_, ?_, ?_, ?_, ?_, ?_, ?_, ?_, trivial⟩
    · refine stepW_of_u ⟨rfl, fun v W ρ hC' kc kf ks ki kd => ?_⟩
      have t2 : ρ (.tmp 2) = .pointer (some ⟨w.heap.size, 0, none⟩) := ki 2 (by decide)
      have hg := blk_later HA.out hC'
      have c0 := blk_cell hg 0
      have c1 := blk_cell hg 1
      simp at c0 c1
      simp [execOp, go_sem, kc, t2, c0, c1]
      exact ⟨hC', Below.refl _ _, rfl⟩
    · refine stepW_of_u ⟨rfl, fun v W ρ hC' kc kf ks ki kd => ?_⟩
      have t2 : ρ (.tmp 2) = .pointer (some ⟨w.heap.size, 0, none⟩) := ki 2 (by decide)
      simp [execOp, go_sem, kc, t2]
      exact ⟨hC', Below.refl _ _, rfl⟩
    · refine stepW_of_u ⟨rfl, fun v W ρ hC' kc kf ks ki kd => ?_⟩
      have d1 : v 1 = .pointer (some ⟨w.heap.size, 0, none⟩) := by first | exact kd _ (mem0 rfl) rfl | exact kd _ (mem1 rfl) rfl | exact kd _ (mem2 rfl) rfl | exact kd _ (mem3 rfl) rfl | exact kd _ (mem4 rfl) rfl | exact kd _ (mem5 rfl) rfl
      have t6 : ρ (.tmp 6) = .pointer (some ⟨w.heap.size, 0, none⟩) := (ks 1 6 (by decide) rfl).trans d1
      have hg := blk_later HA.out hC'
      have c0 := blk_cell hg 0
      simp at c0
      simp [execOp, go_sem, kc, t6, c0]
      exact ⟨hC', Below.refl _ _, rfl⟩
    · refine stepW_of_u ⟨rfl, fun v W ρ hC' kc kf ks ki kd => ?_⟩
      have t1 : ρ (.tmp 1) = .int .i64 (C : Int) := ki 1 (by decide)
      simp [execOp, go_sem, kc, t1]
      exact ⟨hC', Below.refl _ _, rfl⟩
    · refine stepW_of_u ⟨rfl, fun v W ρ hC' kc kf ks ki kd => ?_⟩
      have d2 : v 2 = .slice (some ⟨bS, oS, none⟩) s.slots.length cS := by first | exact kd _ (mem0 rfl) rfl | exact kd _ (mem1 rfl) rfl | exact kd _ (mem2 rfl) rfl | exact kd _ (mem3 rfl) rfl | exact kd _ (mem4 rfl) rfl | exact kd _ (mem5 rfl) rfl
      have t7 : ρ (.tmp 7) = .slice (some ⟨bS, oS, none⟩) s.slots.length cS := (ks 2 7 (by decide) rfl).trans d2
      have d3 : v 3 = .int .i64 (C : Int) := by first | exact kd _ (mem0 rfl) rfl | exact kd _ (mem1 rfl) rfl | exact kd _ (mem2 rfl) rfl | exact kd _ (mem3 rfl) rfl | exact kd _ (mem4 rfl) rfl | exact kd _ (mem5 rfl) rfl
      have t8 : ρ (.tmp 8) = .int .i64 (C : Int) := (ks 3 8 (by decide) rfl).trans d3
      simp [execOp, go_sem, kc, t7, t8, hCC]
      exact ⟨hC', Below.refl _ _, rfl⟩
    · refine stepW_of_u ⟨rfl, fun v W ρ hC' kc kf ks ki kd => ?_⟩
      have d4 : v 4 = .pointer (some ⟨bS, oS + C * 4, none⟩) := by first | exact kd _ (mem0 rfl) rfl | exact kd _ (mem1 rfl) rfl | exact kd _ (mem2 rfl) rfl | exact kd _ (mem3 rfl) rfl | exact kd _ (mem4 rfl) rfl | exact kd _ (mem5 rfl) rfl
      have t9 : ρ (.tmp 9) = .pointer (some ⟨bS, oS + C * 4, none⟩) := (ks 4 9 (by decide) rfl).trans d4
      simp [execOp, go_sem, kc, t9]
      exact ⟨hC', Below.refl _ _, rfl⟩
    · refine stepW_of_u ⟨rfl, fun v W ρ hC' kc kf ks ki kd => ?_⟩
      have d5 : v 5 = .pointer (some ⟨bS, oS + C * 4, none⟩) := by first | exact kd _ (mem0 rfl) rfl | exact kd _ (mem1 rfl) rfl | exact kd _ (mem2 rfl) rfl | exact kd _ (mem3 rfl) rfl | exact kd _ (mem4 rfl) rfl | exact kd _ (mem5 rfl) rfl
      have t10 : ρ (.tmp 10) = .pointer (some ⟨bS, oS + C * 4, none⟩) := (ks 5 10 (by decide) rfl).trans d5
      obtain ⟨b', o', eS, lS, c0, _⟩ := (HR.out.slots.later (HB0.out.trans (hC'.mono HB0.out.size))).slot hC
      injection eS with eS; injection eS with eS1 eS2
      subst eS1 eS2
      rw [hx] at c0
      simp [execOp, go_sem, kc, t10, c0]
      exact ⟨hC', Below.refl _ _, rfl⟩
    · refine stepW_of_u ⟨rfl, fun v W ρ hC' kc kf ks ki kd => ?_⟩
      have d0 : v 0 = .agg #[.slice (some ⟨bS, oS, none⟩) s.slots.length cS, .slice aH s.heads.length cH] := by first | exact kd _ (mem0 rfl) rfl | exact kd _ (mem1 rfl) rfl | exact kd _ (mem2 rfl) rfl | exact kd _ (mem3 rfl) rfl | exact kd _ (mem4 rfl) rfl | exact kd _ (mem5 rfl) rfl
      have t5 : ρ (.tmp 5) = .agg #[.slice (some ⟨bS, oS, none⟩) s.slots.length cS, .slice aH s.heads.length cH] := (ks 0 5 (by decide) rfl).trans d0
      have d6 : v 6 = .int .i64 x.key := by first | exact kd _ (mem0 rfl) rfl | exact kd _ (mem1 rfl) rfl | exact kd _ (mem2 rfl) rfl | exact kd _ (mem3 rfl) rfl | exact kd _ (mem4 rfl) rfl | exact kd _ (mem5 rfl) rfl
      have t11 : ρ (.tmp 11) = .int .i64 x.key := (ks 6 11 (by decide) rfl).trans d6
      simp [execOp, go_sem, t5, t11, kf]
      exact Calls.mono (HF.out W (HB0.out.trans (hC'.mono HB0.out.size))) (fun e x h => ⟨_, h.1, hC'.trans (h.2.mono hC'.size), h.2, rfl⟩)
    · refine stepW_of_u ⟨rfl, fun v W ρ hC' kc kf ks ki kd => ?_⟩
      have t1 : ρ (.tmp 1) = .int .i64 (C : Int) := ki 1 (by decide)
      simp [execOp, go_sem, kc, t1]
      exact ⟨hC', Below.refl _ _, rfl⟩
    · refine stepW_of_u ⟨rfl, fun v W ρ hC' kc kf ks ki kd => ?_⟩
      have d7 : v 7 = .int .i64 f := by first | exact kd _ (mem0 rfl) rfl | exact kd _ (mem1 rfl) rfl | exact kd _ (mem2 rfl) rfl | exact kd _ (mem3 rfl) rfl | exact kd _ (mem4 rfl) rfl | exact kd _ (mem5 rfl) rfl
      have t12 : ρ (.tmp 12) = .int .i64 f := (ks 7 12 (by decide) rfl).trans d7
      have d8 : v 8 = .int .i64 (C : Int) := by first | exact kd _ (mem0 rfl) rfl | exact kd _ (mem1 rfl) rfl | exact kd _ (mem2 rfl) rfl | exact kd _ (mem3 rfl) rfl | exact kd _ (mem4 rfl) rfl | exact kd _ (mem5 rfl) rfl
      have t13 : ρ (.tmp 13) = .int .i64 (C : Int) := (ks 8 13 (by decide) rfl).trans d8
      simp [execOp, go_sem, kc, t12, t13]
      exact ⟨hC', Below.refl _ _, rfl⟩
    · refine stepW_of_u ⟨rfl, fun v W ρ hC' kc kf ks ki kd => ?_⟩
      have d9 : v 9 = .bool (f == (C : Int)) := by first | exact kd _ (mem0 rfl) rfl | exact kd _ (mem1 rfl) rfl | exact kd _ (mem2 rfl) rfl | exact kd _ (mem3 rfl) rfl | exact kd _ (mem4 rfl) rfl | exact kd _ (mem5 rfl) rfl
      have t14 : ρ (.tmp 14) = .bool (f == (C : Int)) := (ks 9 14 (by decide) rfl).trans d9
      simp [execOp, go_sem, kc, t14]
      exact ⟨hC', Below.refl _ _, rfl⟩
  intro v1 W1 hb1 hall
  have hv1 : v1 10 = .bool (f == (C : Int)) := hall 10 (by decide)
  simp [upto, Act.put]
  rw [hv1]
  clear hall hv1
  go_wp2_with fail
  go_ret
  exact ⟨rfl, HB0.out.trans (hb1.mono HB0.out.size)⟩
end Go.Proofs.Ytjhkaideckgffaa
