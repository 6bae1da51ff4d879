/- Proved here: spec.l07Step does a step of a right walker in a right slab's own memory; nothing else that was there changes (conditions: the slab's rows lie in two blocks of their own; the walker may go on). -/
import Derived.Test.YtfjgofmjhccdkaaWalkS1
import Derived.Test.YtfjgofmjhccdkaaAll31
import Derived.BigRegion
namespace Go.Proofs.Ytfjgofmjhccdkaa
open Go.ChangeShapes Go.WideShapes Go.ChangeAt Go.RowKit
set_option linter.unusedVariables false
set_option linter.unusedSimpArgs false
set_option maxRecDepth 100000

set_option maxHeartbeats 8000000 in
theorem l07Step_end (g tb o2 c2 b3 o3 c3 : Nat) (s : Slb) (key cur steps : Int) (w : World) (hr : rightSl s = true) (hk0 : 0 ≤ key) (ht0 : 0 ≤ steps) (ht1 : steps < 1000000) (hG : w.heap[g]? = some (.cells #[.slice (some ⟨tb, o2, none⟩) s.slots.length c2, .slice (some ⟨b3, o3, none⟩) s.heads.length c3] 26)) (P : RowB tb o2 (flat s.slots) w) (Q : RowB b3 o3 s.heads w) (n1 : tb ≠ b3) (n2 : tb ≠ g) (hc0 : cur < 0) (hc1 : -5 ≤ cur) (he : -1 - cur = key.tmod s.heads.length) :
    Calls Try.prog 60 #[.pointer (some ⟨g, 0, none⟩), .agg #[.int .i64 key, .int .i64 cur, .int .i64 0, .int .i64 0, .int .i64 0, .int .i64 0, .int .i64 steps]] w fun e w' => e = .returned (.agg #[.int .i64 key, .int .i64 cur, .int .i64 0, .int .i64 2, .int .i64 0, .int .i64 0, .int .i64 (steps + 1)]) ∧ RowB tb o2 (flat s.slots) w' ∧ Tch tb w w' := by
  obtain ⟨_, m1, m2, m3, m4⟩ := right_leads hr
  obtain ⟨hcl, hmod⟩ := chN_lt (s := s) hk0 m3
  rw [← hmod] at he
  generalize chN s key = c at hcl hmod he
  replace hmod := hmod.symm
  have hne : s.heads ≠ [] := fun e => by rw [e] at m3; simp at m3
  have hwr : IntKind.i64.wrap (-1 - cur) = -1 - cur := IntWalk.i64_in _ (by omega)
  have hec : (-1 - cur == (c : Int)) = true := beq_iff_eq.2 he
  clear he hr m1 m2 hk0
  have K0 : Hid (((w.alloc (.cells #[.int .i64 key, .int .i64 cur, .int .i64 0, .int .i64 0, .int .i64 0, .int .i64 0, .int .i64 steps] 30)).alloc (.cells #[.int .i64 0, .int .i64 0, .int .i64 0, .int .i64 0, .int .i64 0, .int .i64 0, .int .i64 0] 30)).heap[w.heap.size]? = some (.cells #[.int .i64 key, .int .i64 cur, .int .i64 0, .int .i64 0, .int .i64 0, .int .i64 0, .int .i64 steps] 30)) := by
    show _ = _
    have := blk_alloc (heap_newG w (.cells #[.int .i64 key, .int .i64 cur, .int .i64 0, .int .i64 0, .int .i64 0, .int .i64 0, .int .i64 steps] 30)) (.cells #[.int .i64 0, .int .i64 0, .int .i64 0, .int .i64 0, .int .i64 0, .int .i64 0, .int .i64 0] 30)
    simpa using this
  have R0 : Hid (((w.alloc (.cells #[.int .i64 key, .int .i64 cur, .int .i64 0, .int .i64 0, .int .i64 0, .int .i64 0, .int .i64 steps] 30)).alloc (.cells #[.int .i64 0, .int .i64 0, .int .i64 0, .int .i64 0, .int .i64 0, .int .i64 0, .int .i64 0] 30)).heap[w.heap.size + 1]? = some (.cells #[.int .i64 0, .int .i64 0, .int .i64 0, .int .i64 0, .int .i64 0, .int .i64 0, .int .i64 0] 30)) := by
    show _ = _
    have := heap_newG (w.alloc (.cells #[.int .i64 key, .int .i64 cur, .int .i64 0, .int .i64 0, .int .i64 0, .int .i64 0, .int .i64 steps] 30)) (.cells #[.int .i64 0, .int .i64 0, .int .i64 0, .int .i64 0, .int .i64 0, .int .i64 0, .int .i64 0] 30)
    simpa using this
  have hB0 := ((Below.refl w.heap.size w).alloc (Nat.le_refl _) (.cells #[.int .i64 key, .int .i64 cur, .int .i64 0, .int .i64 0, .int .i64 0, .int .i64 0, .int .i64 steps] 30)).alloc (by simp) (.cells #[.int .i64 0, .int .i64 0, .int .i64 0, .int .i64 0, .int .i64 0, .int .i64 0, .int .i64 0] 30)
  have G0 := hidS (blk_later hG hB0)
  have P0 := hidS (P.later hB0)
  have Q0 := hidS (Q.later hB0)
  have T0 := hidS ((Tch.refl tb w).later hB0)
  have lg := blk_lt hG
  have lb := P.lt
  have lq := Q.lt
  clear hB0 hG P Q
  go_enter Try.func60, Try.ntmps60
  go_upto_region 1 with fail
  generalize (w.alloc (.cells #[.int .i64 key, .int .i64 cur, .int .i64 0, .int .i64 0, .int .i64 0, .int .i64 0, .int .i64 steps] 30)).alloc (.cells #[.int .i64 0, .int .i64 0, .int .i64 0, .int .i64 0, .int .i64 0, .int .i64 0, .int .i64 0] 30) = w0 at K0 R0 G0 P0 Q0 T0 ⊢
  have k0 := blk_cell K0.out 0
  have k1 := blk_cell K0.out 1
  have k2 := blk_cell K0.out 2
  have k3 := blk_cell K0.out 3
  have k4 := blk_cell K0.out 4
  have k5 := blk_cell K0.out 5
  have k6 := blk_cell K0.out 6
  simp at k0 k1 k2 k3 k4 k5 k6
  have fK := blk_free K0.out
  go_upto_region 2 with fail
  clear k0 k1 k2 k3 k4 k5 k6 fK
  have K1 : Hid ((w0.setCell ⟨w.heap.size, 6, none⟩ (.int .i64 (steps + 1))).heap[w.heap.size]? = some (.cells #[.int .i64 key, .int .i64 cur, .int .i64 0, .int .i64 0, .int .i64 0, .int .i64 0, .int .i64 (steps + 1)] 30)) := by
    have := blk_set K0.out 6 (.int .i64 (steps + 1))
    exact this
  have R1 : Hid ((w0.setCell ⟨w.heap.size, 6, none⟩ (.int .i64 (steps + 1))).heap[w.heap.size + 1]? = some (.cells #[.int .i64 0, .int .i64 0, .int .i64 0, .int .i64 0, .int .i64 0, .int .i64 0, .int .i64 0] 30)) := hidS (blk_other (B := w.heap.size) R0.out (by omega) 6 (.int .i64 (steps + 1)))
  have G1 : Hid ((w0.setCell ⟨w.heap.size, 6, none⟩ (.int .i64 (steps + 1))).heap[g]? = some (.cells #[.slice (some ⟨tb, o2, none⟩) s.slots.length c2, .slice (some ⟨b3, o3, none⟩) s.heads.length c3] 26)) := hidS (blk_other (B := w.heap.size) G0.out (by omega) 6 (.int .i64 (steps + 1)))
  have P1 : Hid (RowB tb o2 (flat s.slots) ((w0.setCell ⟨w.heap.size, 6, none⟩ (.int .i64 (steps + 1))))) := hidS (RowB.other (g := w.heap.size) (k := 6) (v := .int .i64 (steps + 1)) P0.out (by omega))
  have Q1 : Hid (RowB b3 o3 s.heads ((w0.setCell ⟨w.heap.size, 6, none⟩ (.int .i64 (steps + 1))))) := hidS (RowB.other (g := w.heap.size) (k := 6) (v := .int .i64 (steps + 1)) Q0.out (by omega))
  have T1 : Hid (Tch tb w ((w0.setCell ⟨w.heap.size, 6, none⟩ (.int .i64 (steps + 1))))) := hidS (Tch.own T0.out (by omega) 6 (.int .i64 (steps + 1)))
  clear T0 K0 R0 G0 P0 Q0
  generalize (w0.setCell ⟨w.heap.size, 6, none⟩ (.int .i64 (steps + 1))) = w1 at K1 R1 G1 P1 Q1 T1 ⊢
  have k0 := blk_cell K1.out 0
  have k1 := blk_cell K1.out 1
  have k2 := blk_cell K1.out 2
  have k3 := blk_cell K1.out 3
  have k4 := blk_cell K1.out 4
  have k5 := blk_cell K1.out 5
  have k6 := blk_cell K1.out 6
  simp at k0 k1 k2 k3 k4 k5 k6
  go_wp2_with fail
  clear k0 k1 k2 k3 k4 k5 k6
  refine grow_guarded 12 [.is (.pointer (some ⟨w.heap.size, 1, none⟩)), .is (.int .i64 cur), .is (.int .i64 (-1 - cur)), .is (.pointer (some ⟨w.heap.size, 0, none⟩)), .is (.int .i64 key), .is (.pointer (some ⟨g, 0, none⟩)), .is (.pointer (some ⟨g, 0, none⟩)), .is (.pointer (some ⟨g, 1, none⟩)), .is (.slice (some ⟨b3, o3, none⟩) s.heads.length c3), .is (.int .i64 (s.heads.length : Int)), .is (.int .i64 (c : Int)), .is (.bool true)] rfl (by kernel_rfl) (by kernel_rfl) ?steps3 ?fin3
  case steps3 =>
    refine ⟨?_, ?_, ?_, ?_, ?_, ?_, ?_, ?_, ?_, ?_, ?_, ?_, trivial⟩
    · refine stepW_of_u ⟨rfl, fun v W ρ hC kc kf ks ki kd => ?_⟩
      have t3 : ρ (.tmp 3) = .pointer (some ⟨w.heap.size, 0, none⟩) := ki 3 (by decide)
      simp [execOp, go_sem, kc, t3]
      exact ⟨hC, Below.refl _ _, rfl⟩
    · refine stepW_of_u ⟨rfl, fun v W ρ hC kc kf ks ki kd => ?_⟩
      have d0 : v 0 = .pointer (some ⟨w.heap.size, 1, none⟩) := (kdj kd 0 rfl :)
      have t13 : ρ (.tmp 13) = .pointer (some ⟨w.heap.size, 1, none⟩) := (ks 0 13 (by decide) rfl).trans d0
      have hg := blk_later K1.out hC
      have c1 := blk_cell hg 1
      simp at c1
      simp [execOp, go_sem, kc, t13, c1]
      exact ⟨hC, Below.refl _ _, rfl⟩
    · refine stepW_of_u ⟨rfl, fun v W ρ hC kc kf ks ki kd => ?_⟩
      have d1 : v 1 = .int .i64 cur := (kdj kd 1 rfl :)
      have t14 : ρ (.tmp 14) = .int .i64 cur := (ks 1 14 (by decide) rfl).trans d1
      simp [execOp, go_sem, kc, t14, hwr]
      exact ⟨hC, Below.refl _ _, rfl⟩
    · refine stepW_of_u ⟨rfl, fun v W ρ hC kc kf ks ki kd => ?_⟩
      have t3 : ρ (.tmp 3) = .pointer (some ⟨w.heap.size, 0, none⟩) := ki 3 (by decide)
      simp [execOp, go_sem, kc, t3]
      exact ⟨hC, Below.refl _ _, rfl⟩
    · refine stepW_of_u ⟨rfl, fun v W ρ hC kc kf ks ki kd => ?_⟩
      have d3 : v 3 = .pointer (some ⟨w.heap.size, 0, none⟩) := (kdj kd 3 rfl :)
      have t16 : ρ (.tmp 16) = .pointer (some ⟨w.heap.size, 0, none⟩) := (ks 3 16 (by decide) rfl).trans d3
      have hg := blk_later K1.out hC
      have c0 := blk_cell hg 0
      simp at c0
      simp [execOp, go_sem, kc, t16, c0]
      exact ⟨hC, Below.refl _ _, rfl⟩
    · refine stepW_of_u ⟨rfl, fun v W ρ hC kc kf ks ki kd => ?_⟩
      have t0 : ρ (.tmp 0) = .pointer (some ⟨g, 0, none⟩) := ki 0 (by decide)
      simp [execOp, go_sem, kc, t0]
      exact ⟨hC, Below.refl _ _, rfl⟩
    · refine stepW_of_u ⟨rfl, fun v W ρ hC kc kf ks ki kd => ?_⟩
      have d5 : v 5 = .pointer (some ⟨g, 0, none⟩) := (kdj kd 5 rfl :)
      have t18 : ρ (.tmp 18) = .pointer (some ⟨g, 0, none⟩) := (ks 5 18 (by decide) rfl).trans d5
      simp [execOp, go_sem, kc, t18]
      exact ⟨hC, Below.refl _ _, rfl⟩
    · refine stepW_of_u ⟨rfl, fun v W ρ hC kc kf ks ki kd => ?_⟩
      have d6 : v 6 = .pointer (some ⟨g, 0, none⟩) := (kdj kd 6 rfl :)
      have t19 : ρ (.tmp 19) = .pointer (some ⟨g, 0, none⟩) := (ks 6 19 (by decide) rfl).trans d6
      simp [execOp, go_sem, kc, t19]
      exact ⟨hC, Below.refl _ _, rfl⟩
    · refine stepW_of_u ⟨rfl, fun v W ρ hC kc kf ks ki kd => ?_⟩
      have d7 : v 7 = .pointer (some ⟨g, 1, none⟩) := (kdj kd 7 rfl :)
      have t20 : ρ (.tmp 20) = .pointer (some ⟨g, 1, none⟩) := (ks 7 20 (by decide) rfl).trans d7
      have hg := blk_later G1.out hC
      have c1 := blk_cell hg 1
      simp at c1
      simp [execOp, go_sem, kc, t20, c1]
      exact ⟨hC, Below.refl _ _, rfl⟩
    · refine stepW_of_u ⟨rfl, fun v W ρ hC kc kf ks ki kd => ?_⟩
      have d8 : v 8 = .slice (some ⟨b3, o3, none⟩) s.heads.length c3 := (kdj kd 8 rfl :)
      have t21 : ρ (.tmp 21) = .slice (some ⟨b3, o3, none⟩) s.heads.length c3 := (ks 8 21 (by decide) rfl).trans d8
      simp [execOp, go_sem, kc, t21]
      exact ⟨hC, Below.refl _ _, rfl⟩
    · refine stepW_of_u ⟨rfl, fun v W ρ hC kc kf ks ki kd => ?_⟩
      have d4 : v 4 = .int .i64 key := (kdj kd 4 rfl :)
      have t17 : ρ (.tmp 17) = .int .i64 key := (ks 4 17 (by decide) rfl).trans d4
      have d9 : v 9 = .int .i64 (s.heads.length : Int) := (kdj kd 9 rfl :)
      have t22 : ρ (.tmp 22) = .int .i64 (s.heads.length : Int) := (ks 9 22 (by decide) rfl).trans d9
      simp [execOp, go_sem, kc, t17, t22, hmod, hne]
      exact ⟨hC, Below.refl _ _, rfl⟩
    · refine stepW_of_u ⟨rfl, fun v W ρ hC kc kf ks ki kd => ?_⟩
      have d2 : v 2 = .int .i64 (-1 - cur) := (kdj kd 2 rfl :)
      have t15 : ρ (.tmp 15) = .int .i64 (-1 - cur) := (ks 2 15 (by decide) rfl).trans d2
      have d10 : v 10 = .int .i64 (c : Int) := (kdj kd 10 rfl :)
      have t23 : ρ (.tmp 23) = .int .i64 (c : Int) := (ks 10 23 (by decide) rfl).trans d10
      simp [execOp, go_sem, kc, t15, t23, hec]
      exact ⟨hC, Below.refl _ _, rfl⟩
  intro v3 w2 hb hall
  have hv3 : v3 11 = .bool true := hall 11 (by decide)
  simp [upto, Act.put]
  rw [hv3]
  clear hall hv3
  have K2 := hidS (blk_later K1.out hb)
  have R2 := hidS (blk_later R1.out hb)
  have G2 := hidS (blk_later G1.out hb)
  have P2 := hidS (P1.out.later hb)
  have Q2 := hidS (Q1.out.later hb)
  have T2 := hidS (T1.out.later hb)
  clear T1 hb K1 R1 G1 P1 Q1
  have k0 := blk_cell K2.out 0
  have k1 := blk_cell K2.out 1
  have k2 := blk_cell K2.out 2
  have k3 := blk_cell K2.out 3
  have k4 := blk_cell K2.out 4
  have k5 := blk_cell K2.out 5
  have k6 := blk_cell K2.out 6
  simp at k0 k1 k2 k3 k4 k5 k6
  have fK := blk_free K2.out
  go_upto_region 6 with fail
  clear k0 k1 k2 k3 k4 k5 k6 fK
  have K3 : Hid ((w2.setCell ⟨w.heap.size, 3, none⟩ (.int .i64 2)).heap[w.heap.size]? = some (.cells #[.int .i64 key, .int .i64 cur, .int .i64 0, .int .i64 2, .int .i64 0, .int .i64 0, .int .i64 (steps + 1)] 30)) := by
    have := blk_set K2.out 3 (.int .i64 2)
    exact this
  have R3 : Hid ((w2.setCell ⟨w.heap.size, 3, none⟩ (.int .i64 2)).heap[w.heap.size + 1]? = some (.cells #[.int .i64 0, .int .i64 0, .int .i64 0, .int .i64 0, .int .i64 0, .int .i64 0, .int .i64 0] 30)) := hidS (blk_other (B := w.heap.size) R2.out (by omega) 3 (.int .i64 2))
  have G3 : Hid ((w2.setCell ⟨w.heap.size, 3, none⟩ (.int .i64 2)).heap[g]? = some (.cells #[.slice (some ⟨tb, o2, none⟩) s.slots.length c2, .slice (some ⟨b3, o3, none⟩) s.heads.length c3] 26)) := hidS (blk_other (B := w.heap.size) G2.out (by omega) 3 (.int .i64 2))
  have P3 : Hid (RowB tb o2 (flat s.slots) ((w2.setCell ⟨w.heap.size, 3, none⟩ (.int .i64 2)))) := hidS (RowB.other (g := w.heap.size) (k := 3) (v := .int .i64 2) P2.out (by omega))
  have Q3 : Hid (RowB b3 o3 s.heads ((w2.setCell ⟨w.heap.size, 3, none⟩ (.int .i64 2)))) := hidS (RowB.other (g := w.heap.size) (k := 3) (v := .int .i64 2) Q2.out (by omega))
  have T3 : Hid (Tch tb w ((w2.setCell ⟨w.heap.size, 3, none⟩ (.int .i64 2)))) := hidS (Tch.own T2.out (by omega) 3 (.int .i64 2))
  clear T2 K2 R2 G2 P2 Q2
  generalize (w2.setCell ⟨w.heap.size, 3, none⟩ (.int .i64 2)) = w3 at K3 R3 G3 P3 Q3 T3 ⊢
  have k0 := blk_cell K3.out 0
  have k1 := blk_cell K3.out 1
  have k2 := blk_cell K3.out 2
  have k3 := blk_cell K3.out 3
  have k4 := blk_cell K3.out 4
  have k5 := blk_cell K3.out 5
  have k6 := blk_cell K3.out 6
  simp at k0 k1 k2 k3 k4 k5 k6
  have kR := blk_cell R3.out
  have fR := blk_free R3.out
  have hP := P3
  have hT := T3
  go_wp2_with fail
  refine bodyPost_ret (v := .agg #[.int .i64 key, .int .i64 cur, .int .i64 0, .int .i64 2, .int .i64 0, .int .i64 0, .int .i64 (steps + 1)]) (by simp [results, Try.results60, go_sem, *]) rfl ⟨rfl, ?_, ?_⟩
  · repeat (refine RowB.other ?_ (by omega))
    exact hP.out
  · repeat (refine Tch.own ?_ (by omega) _ _)
    exact hT.out
set_option maxHeartbeats 8000000 in
theorem l07Step_other (g tb o2 c2 b3 o3 c3 : Nat) (s : Slb) (key cur steps : Int) (w : World) (hr : rightSl s = true) (hk0 : 0 ≤ key) (ht0 : 0 ≤ steps) (ht1 : steps < 1000000) (hG : w.heap[g]? = some (.cells #[.slice (some ⟨tb, o2, none⟩) s.slots.length c2, .slice (some ⟨b3, o3, none⟩) s.heads.length c3] 26)) (P : RowB tb o2 (flat s.slots) w) (Q : RowB b3 o3 s.heads w) (n1 : tb ≠ b3) (n2 : tb ≠ g) (hc0 : cur < 0) (hc1 : -5 ≤ cur) (he : ¬ -1 - cur = key.tmod s.heads.length) :
    Calls Try.prog 60 #[.pointer (some ⟨g, 0, none⟩), .agg #[.int .i64 key, .int .i64 cur, .int .i64 0, .int .i64 0, .int .i64 0, .int .i64 0, .int .i64 steps]] w fun e w' => e = .returned (.agg #[.int .i64 key, .int .i64 (hdK s key), .int .i64 0, .int .i64 0, .int .i64 0, .int .i64 0, .int .i64 (steps + 1)]) ∧ RowB tb o2 (flat s.slots) w' ∧ Tch tb w w' := by
  obtain ⟨_, m1, m2, m3, m4⟩ := right_leads hr
  have HH := hidS (fun W (h : RowZ (some ⟨b3, o3, none⟩) s.heads W) => l07Head_any tb o2 b3 o3 c2 c3 s key W h hk0 m3 m4)
  generalize hdK s key = hd at HH ⊢
  obtain ⟨hcl, hmod⟩ := chN_lt (s := s) hk0 m3
  rw [← hmod] at he
  generalize chN s key = c at hcl hmod he
  replace hmod := hmod.symm
  have hne : s.heads ≠ [] := fun e => by rw [e] at m3; simp at m3
  have hwr : IntKind.i64.wrap (-1 - cur) = -1 - cur := IntWalk.i64_in _ (by omega)
  have hec : (-1 - cur == (c : Int)) = false := beq_eq_false_iff_ne.2 he
  clear he hr m1 m2
  have K0 : Hid (((w.alloc (.cells #[.int .i64 key, .int .i64 cur, .int .i64 0, .int .i64 0, .int .i64 0, .int .i64 0, .int .i64 steps] 30)).alloc (.cells #[.int .i64 0, .int .i64 0, .int .i64 0, .int .i64 0, .int .i64 0, .int .i64 0, .int .i64 0] 30)).heap[w.heap.size]? = some (.cells #[.int .i64 key, .int .i64 cur, .int .i64 0, .int .i64 0, .int .i64 0, .int .i64 0, .int .i64 steps] 30)) := by
    show _ = _
    have := blk_alloc (heap_newG w (.cells #[.int .i64 key, .int .i64 cur, .int .i64 0, .int .i64 0, .int .i64 0, .int .i64 0, .int .i64 steps] 30)) (.cells #[.int .i64 0, .int .i64 0, .int .i64 0, .int .i64 0, .int .i64 0, .int .i64 0, .int .i64 0] 30)
    simpa using this
  have R0 : Hid (((w.alloc (.cells #[.int .i64 key, .int .i64 cur, .int .i64 0, .int .i64 0, .int .i64 0, .int .i64 0, .int .i64 steps] 30)).alloc (.cells #[.int .i64 0, .int .i64 0, .int .i64 0, .int .i64 0, .int .i64 0, .int .i64 0, .int .i64 0] 30)).heap[w.heap.size + 1]? = some (.cells #[.int .i64 0, .int .i64 0, .int .i64 0, .int .i64 0, .int .i64 0, .int .i64 0, .int .i64 0] 30)) := by
    show _ = _
    have := heap_newG (w.alloc (.cells #[.int .i64 key, .int .i64 cur, .int .i64 0, .int .i64 0, .int .i64 0, .int .i64 0, .int .i64 steps] 30)) (.cells #[.int .i64 0, .int .i64 0, .int .i64 0, .int .i64 0, .int .i64 0, .int .i64 0, .int .i64 0] 30)
    simpa using this
  have hB0 := ((Below.refl w.heap.size w).alloc (Nat.le_refl _) (.cells #[.int .i64 key, .int .i64 cur, .int .i64 0, .int .i64 0, .int .i64 0, .int .i64 0, .int .i64 steps] 30)).alloc (by simp) (.cells #[.int .i64 0, .int .i64 0, .int .i64 0, .int .i64 0, .int .i64 0, .int .i64 0, .int .i64 0] 30)
  have G0 := hidS (blk_later hG hB0)
  have P0 := hidS (P.later hB0)
  have Q0 := hidS (Q.later hB0)
  have T0 := hidS ((Tch.refl tb w).later hB0)
  have lg := blk_lt hG
  have lb := P.lt
  have lq := Q.lt
  clear hB0 hG P Q
  go_enter Try.func60, Try.ntmps60
  go_upto_region 1 with fail
  generalize (w.alloc (.cells #[.int .i64 key, .int .i64 cur, .int .i64 0, .int .i64 0, .int .i64 0, .int .i64 0, .int .i64 steps] 30)).alloc (.cells #[.int .i64 0, .int .i64 0, .int .i64 0, .int .i64 0, .int .i64 0, .int .i64 0, .int .i64 0] 30) = w0 at K0 R0 G0 P0 Q0 T0 ⊢
  have k0 := blk_cell K0.out 0
  have k1 := blk_cell K0.out 1
  have k2 := blk_cell K0.out 2
  have k3 := blk_cell K0.out 3
  have k4 := blk_cell K0.out 4
  have k5 := blk_cell K0.out 5
  have k6 := blk_cell K0.out 6
  simp at k0 k1 k2 k3 k4 k5 k6
  have fK := blk_free K0.out
  go_upto_region 2 with fail
  clear k0 k1 k2 k3 k4 k5 k6 fK
  have K1 : Hid ((w0.setCell ⟨w.heap.size, 6, none⟩ (.int .i64 (steps + 1))).heap[w.heap.size]? = some (.cells #[.int .i64 key, .int .i64 cur, .int .i64 0, .int .i64 0, .int .i64 0, .int .i64 0, .int .i64 (steps + 1)] 30)) := by
    have := blk_set K0.out 6 (.int .i64 (steps + 1))
    exact this
  have R1 : Hid ((w0.setCell ⟨w.heap.size, 6, none⟩ (.int .i64 (steps + 1))).heap[w.heap.size + 1]? = some (.cells #[.int .i64 0, .int .i64 0, .int .i64 0, .int .i64 0, .int .i64 0, .int .i64 0, .int .i64 0] 30)) := hidS (blk_other (B := w.heap.size) R0.out (by omega) 6 (.int .i64 (steps + 1)))
  have G1 : Hid ((w0.setCell ⟨w.heap.size, 6, none⟩ (.int .i64 (steps + 1))).heap[g]? = some (.cells #[.slice (some ⟨tb, o2, none⟩) s.slots.length c2, .slice (some ⟨b3, o3, none⟩) s.heads.length c3] 26)) := hidS (blk_other (B := w.heap.size) G0.out (by omega) 6 (.int .i64 (steps + 1)))
  have P1 : Hid (RowB tb o2 (flat s.slots) ((w0.setCell ⟨w.heap.size, 6, none⟩ (.int .i64 (steps + 1))))) := hidS (RowB.other (g := w.heap.size) (k := 6) (v := .int .i64 (steps + 1)) P0.out (by omega))
  have Q1 : Hid (RowB b3 o3 s.heads ((w0.setCell ⟨w.heap.size, 6, none⟩ (.int .i64 (steps + 1))))) := hidS (RowB.other (g := w.heap.size) (k := 6) (v := .int .i64 (steps + 1)) Q0.out (by omega))
  have T1 : Hid (Tch tb w ((w0.setCell ⟨w.heap.size, 6, none⟩ (.int .i64 (steps + 1))))) := hidS (Tch.own T0.out (by omega) 6 (.int .i64 (steps + 1)))
  clear T0 K0 R0 G0 P0 Q0
  generalize (w0.setCell ⟨w.heap.size, 6, none⟩ (.int .i64 (steps + 1))) = w1 at K1 R1 G1 P1 Q1 T1 ⊢
  have k0 := blk_cell K1.out 0
  have k1 := blk_cell K1.out 1
  have k2 := blk_cell K1.out 2
  have k3 := blk_cell K1.out 3
  have k4 := blk_cell K1.out 4
  have k5 := blk_cell K1.out 5
  have k6 := blk_cell K1.out 6
  simp at k0 k1 k2 k3 k4 k5 k6
  go_wp2_with fail
  clear k0 k1 k2 k3 k4 k5 k6
  refine grow_guarded 12 [.is (.pointer (some ⟨w.heap.size, 1, none⟩)), .is (.int .i64 cur), .is (.int .i64 (-1 - cur)), .is (.pointer (some ⟨w.heap.size, 0, none⟩)), .is (.int .i64 key), .is (.pointer (some ⟨g, 0, none⟩)), .is (.pointer (some ⟨g, 0, none⟩)), .is (.pointer (some ⟨g, 1, none⟩)), .is (.slice (some ⟨b3, o3, none⟩) s.heads.length c3), .is (.int .i64 (s.heads.length : Int)), .is (.int .i64 (c : Int)), .is (.bool false)] rfl (by kernel_rfl) (by kernel_rfl) ?steps3 ?fin3
  case steps3 =>
    refine ⟨?_, ?_, ?_, ?_, ?_, ?_, ?_, ?_, ?_, ?_, ?_, ?_, trivial⟩
    · refine stepW_of_u ⟨rfl, fun v W ρ hC kc kf ks ki kd => ?_⟩
      have t3 : ρ (.tmp 3) = .pointer (some ⟨w.heap.size, 0, none⟩) := ki 3 (by decide)
      simp [execOp, go_sem, kc, t3]
      exact ⟨hC, Below.refl _ _, rfl⟩
    · refine stepW_of_u ⟨rfl, fun v W ρ hC kc kf ks ki kd => ?_⟩
      have d0 : v 0 = .pointer (some ⟨w.heap.size, 1, none⟩) := (kdj kd 0 rfl :)
      have t13 : ρ (.tmp 13) = .pointer (some ⟨w.heap.size, 1, none⟩) := (ks 0 13 (by decide) rfl).trans d0
      have hg := blk_later K1.out hC
      have c1 := blk_cell hg 1
      simp at c1
      simp [execOp, go_sem, kc, t13, c1]
      exact ⟨hC, Below.refl _ _, rfl⟩
    · refine stepW_of_u ⟨rfl, fun v W ρ hC kc kf ks ki kd => ?_⟩
      have d1 : v 1 = .int .i64 cur := (kdj kd 1 rfl :)
      have t14 : ρ (.tmp 14) = .int .i64 cur := (ks 1 14 (by decide) rfl).trans d1
      simp [execOp, go_sem, kc, t14, hwr]
      exact ⟨hC, Below.refl _ _, rfl⟩
    · refine stepW_of_u ⟨rfl, fun v W ρ hC kc kf ks ki kd => ?_⟩
      have t3 : ρ (.tmp 3) = .pointer (some ⟨w.heap.size, 0, none⟩) := ki 3 (by decide)
      simp [execOp, go_sem, kc, t3]
      exact ⟨hC, Below.refl _ _, rfl⟩
    · refine stepW_of_u ⟨rfl, fun v W ρ hC kc kf ks ki kd => ?_⟩
      have d3 : v 3 = .pointer (some ⟨w.heap.size, 0, none⟩) := (kdj kd 3 rfl :)
      have t16 : ρ (.tmp 16) = .pointer (some ⟨w.heap.size, 0, none⟩) := (ks 3 16 (by decide) rfl).trans d3
      have hg := blk_later K1.out hC
      have c0 := blk_cell hg 0
      simp at c0
      simp [execOp, go_sem, kc, t16, c0]
      exact ⟨hC, Below.refl _ _, rfl⟩
    · refine stepW_of_u ⟨rfl, fun v W ρ hC kc kf ks ki kd => ?_⟩
      have t0 : ρ (.tmp 0) = .pointer (some ⟨g, 0, none⟩) := ki 0 (by decide)
      simp [execOp, go_sem, kc, t0]
      exact ⟨hC, Below.refl _ _, rfl⟩
    · refine stepW_of_u ⟨rfl, fun v W ρ hC kc kf ks ki kd => ?_⟩
      have d5 : v 5 = .pointer (some ⟨g, 0, none⟩) := (kdj kd 5 rfl :)
      have t18 : ρ (.tmp 18) = .pointer (some ⟨g, 0, none⟩) := (ks 5 18 (by decide) rfl).trans d5
      simp [execOp, go_sem, kc, t18]
      exact ⟨hC, Below.refl _ _, rfl⟩
    · refine stepW_of_u ⟨rfl, fun v W ρ hC kc kf ks ki kd => ?_⟩
      have d6 : v 6 = .pointer (some ⟨g, 0, none⟩) := (kdj kd 6 rfl :)
      have t19 : ρ (.tmp 19) = .pointer (some ⟨g, 0, none⟩) := (ks 6 19 (by decide) rfl).trans d6
      simp [execOp, go_sem, kc, t19]
      exact ⟨hC, Below.refl _ _, rfl⟩
    · refine stepW_of_u ⟨rfl, fun v W ρ hC kc kf ks ki kd => ?_⟩
      have d7 : v 7 = .pointer (some ⟨g, 1, none⟩) := (kdj kd 7 rfl :)
      have t20 : ρ (.tmp 20) = .pointer (some ⟨g, 1, none⟩) := (ks 7 20 (by decide) rfl).trans d7
      have hg := blk_later G1.out hC
      have c1 := blk_cell hg 1
      simp at c1
      simp [execOp, go_sem, kc, t20, c1]
      exact ⟨hC, Below.refl _ _, rfl⟩
    · refine stepW_of_u ⟨rfl, fun v W ρ hC kc kf ks ki kd => ?_⟩
      have d8 : v 8 = .slice (some ⟨b3, o3, none⟩) s.heads.length c3 := (kdj kd 8 rfl :)
      have t21 : ρ (.tmp 21) = .slice (some ⟨b3, o3, none⟩) s.heads.length c3 := (ks 8 21 (by decide) rfl).trans d8
      simp [execOp, go_sem, kc, t21]
      exact ⟨hC, Below.refl _ _, rfl⟩
    · refine stepW_of_u ⟨rfl, fun v W ρ hC kc kf ks ki kd => ?_⟩
      have d4 : v 4 = .int .i64 key := (kdj kd 4 rfl :)
      have t17 : ρ (.tmp 17) = .int .i64 key := (ks 4 17 (by decide) rfl).trans d4
      have d9 : v 9 = .int .i64 (s.heads.length : Int) := (kdj kd 9 rfl :)
      have t22 : ρ (.tmp 22) = .int .i64 (s.heads.length : Int) := (ks 9 22 (by decide) rfl).trans d9
      simp [execOp, go_sem, kc, t17, t22, hmod, hne]
      exact ⟨hC, Below.refl _ _, rfl⟩
    · refine stepW_of_u ⟨rfl, fun v W ρ hC kc kf ks ki kd => ?_⟩
      have d2 : v 2 = .int .i64 (-1 - cur) := (kdj kd 2 rfl :)
      have t15 : ρ (.tmp 15) = .int .i64 (-1 - cur) := (ks 2 15 (by decide) rfl).trans d2
      have d10 : v 10 = .int .i64 (c : Int) := (kdj kd 10 rfl :)
      have t23 : ρ (.tmp 23) = .int .i64 (c : Int) := (ks 10 23 (by decide) rfl).trans d10
      simp [execOp, go_sem, kc, t15, t23, hec]
      exact ⟨hC, Below.refl _ _, rfl⟩
  intro v3 w2 hb hall
  have hv3 : v3 11 = .bool false := hall 11 (by decide)
  simp [upto, Act.put]
  rw [hv3]
  clear hall hv3
  have K2 := hidS (blk_later K1.out hb)
  have R2 := hidS (blk_later R1.out hb)
  have G2 := hidS (blk_later G1.out hb)
  have P2 := hidS (P1.out.later hb)
  have Q2 := hidS (Q1.out.later hb)
  have T2 := hidS (T1.out.later hb)
  clear T1 hb K1 R1 G1 P1 Q1
  go_wp2_with fail
  refine grow_cell 7 _ [isP (.pointer (some ⟨g, 0, none⟩)), isP (.pointer (some ⟨g, 0, none⟩)), isP (.agg #[.slice (some ⟨tb, o2, none⟩) s.slots.length c2, .slice (some ⟨b3, o3, none⟩) s.heads.length c3]), isP (.pointer (some ⟨w.heap.size, 0, none⟩)), isP (.int .i64 key), isP (.int .i64 hd), isP (.pointer (some ⟨w.heap.size, 1, none⟩))] 6 5 32 31 2 30 w.heap.size 1 hd #[.int .i64 key, .int .i64 cur, .int .i64 0, .int .i64 0, .int .i64 0, .int .i64 0, .int .i64 (steps + 1)] rfl rfl rfl (by kernel_rfl) (by kernel_rfl) (by kernel_rfl) ⟨(fun v W W' h _ => h), (fun v W W' h _ => h), (fun v W W' h _ => h), (fun v W W' h _ => h), (fun v W W' h _ => h), (fun v W W' h _ => h), (fun v W W' h _ => h), trivial⟩ (by decide) (by decide) (by decide) rfl rfl rfl rfl K2.out (by simp) (fun v W h => h) (fun v W h => h) (by kernel_rfl) ?steps5 ?fin5
  case steps5 =>
    refine ⟨?_, ?_, ?_, ?_, ?_, ?_, ?_, trivial⟩
    · refine ⟨rfl, fun v W ρ hC kc kf ks ki kd => ?_⟩
      have t0 : ρ (.tmp 0) = .pointer (some ⟨g, 0, none⟩) := ki 0 (by decide)
      simp [execOp, go_sem, kc, t0]
      simp only [RanS]
      first | exact ⟨hC, Below.refl _ _, rfl⟩ | exact ⟨hC, Below.refl _ _, rfl, by first | exact fun _ _ => trivial | exact fun h => absurd h (by decide), by first | exact fun _ _ => trivial | exact fun h => absurd h (by decide)⟩
    · refine ⟨rfl, fun v W ρ hC kc kf ks ki kd => ?_⟩
      have d0 : v 0 = .pointer (some ⟨g, 0, none⟩) := (kdj kd 0 rfl :)
      have t26 : ρ (.tmp 26) = .pointer (some ⟨g, 0, none⟩) := (ks 0 26 (by decide) rfl).trans d0
      simp [execOp, go_sem, kc, t26]
      simp only [RanS]
      first | exact ⟨hC, Below.refl _ _, rfl⟩ | exact ⟨hC, Below.refl _ _, rfl, by first | exact fun _ _ => trivial | exact fun h => absurd h (by decide), by first | exact fun _ _ => trivial | exact fun h => absurd h (by decide)⟩
    · refine ⟨rfl, fun v W ρ hC kc kf ks ki kd => ?_⟩
      have d1 : v 1 = .pointer (some ⟨g, 0, none⟩) := (kdj kd 1 rfl :)
      have t27 : ρ (.tmp 27) = .pointer (some ⟨g, 0, none⟩) := (ks 1 27 (by decide) rfl).trans d1
      have hg := blk_later G2.out hC
      have c0 := blk_cell hg 0
      have c1 := blk_cell hg 1
      simp at c0 c1
      simp [execOp, go_sem, kc, t27, c0, c1]
      simp only [RanS]
      first | exact ⟨hC, Below.refl _ _, rfl⟩ | exact ⟨hC, Below.refl _ _, rfl, by first | exact fun _ _ => trivial | exact fun h => absurd h (by decide), by first | exact fun _ _ => trivial | exact fun h => absurd h (by decide)⟩
    · refine ⟨rfl, fun v W ρ hC kc kf ks ki kd => ?_⟩
      have t3 : ρ (.tmp 3) = .pointer (some ⟨w.heap.size, 0, none⟩) := ki 3 (by decide)
      simp [execOp, go_sem, kc, t3]
      simp only [RanS]
      first | exact ⟨hC, Below.refl _ _, rfl⟩ | exact ⟨hC, Below.refl _ _, rfl, by first | exact fun _ _ => trivial | exact fun h => absurd h (by decide), by first | exact fun _ _ => trivial | exact fun h => absurd h (by decide)⟩
    · refine ⟨rfl, fun v W ρ hC kc kf ks ki kd => ?_⟩
      have d3 : v 3 = .pointer (some ⟨w.heap.size, 0, none⟩) := (kdj kd 3 rfl :)
      have t29 : ρ (.tmp 29) = .pointer (some ⟨w.heap.size, 0, none⟩) := (ks 3 29 (by decide) rfl).trans d3
      have hg := blk_later K2.out hC
      have c0 := blk_cell hg 0
      simp at c0
      simp [execOp, go_sem, kc, t29, c0]
      simp only [RanS]
      first | exact ⟨hC, Below.refl _ _, rfl⟩ | exact ⟨hC, Below.refl _ _, rfl, by first | exact fun _ _ => trivial | exact fun h => absurd h (by decide), by first | exact fun _ _ => trivial | exact fun h => absurd h (by decide)⟩
    · refine ⟨rfl, fun v W ρ hC kc kf ks ki kd => ?_⟩
      have d2 : v 2 = .agg #[.slice (some ⟨tb, o2, none⟩) s.slots.length c2, .slice (some ⟨b3, o3, none⟩) s.heads.length c3] := (kdj kd 2 rfl :)
      have t28 : ρ (.tmp 28) = .agg #[.slice (some ⟨tb, o2, none⟩) s.slots.length c2, .slice (some ⟨b3, o3, none⟩) s.heads.length c3] := (ks 2 28 (by decide) rfl).trans d2
      have d4 : v 4 = .int .i64 key := (kdj kd 4 rfl :)
      have t30 : ρ (.tmp 30) = .int .i64 key := (ks 4 30 (by decide) rfl).trans d4
      simp [execOp, go_sem, t28, t30, kf]
      simp only [RanS]
      first | exact Calls.mono (HH.out W (Q2.out.later hC).read) (fun e x h => ⟨_, h.1, hC.trans (h.2.mono hC.size), h.2, rfl⟩) | exact Calls.mono (HH.out W (Q2.out.later hC).read) (fun e x h => ⟨_, h.1, hC.trans (h.2.mono hC.size), h.2, rfl, by first | exact fun _ _ => trivial | exact fun h => absurd h (by decide), by first | exact fun _ _ => trivial | exact fun h => absurd h (by decide)⟩)
    · refine ⟨rfl, fun v W ρ hC kc kf ks ki kd => ?_⟩
      have t3 : ρ (.tmp 3) = .pointer (some ⟨w.heap.size, 0, none⟩) := ki 3 (by decide)
      simp [execOp, go_sem, kc, t3]
      simp only [RanS]
      first | exact ⟨hC, Below.refl _ _, rfl⟩ | exact ⟨hC, Below.refl _ _, rfl, by first | exact fun _ _ => trivial | exact fun h => absurd h (by decide), by first | exact fun _ _ => trivial | exact fun h => absurd h (by decide)⟩
  intro v5 w3 hb
  simp [upto, Act.put]
  have K3 := hidS (blk_later K2.out hb)
  have R3 := hidS (blk_later R2.out hb)
  have G3 := hidS (blk_later G2.out hb)
  have P3 := hidS (P2.out.later hb)
  have Q3 := hidS (Q2.out.later hb)
  have T3 := hidS (T2.out.later hb)
  clear T2 hb K2 R2 G2 P2 Q2
  have K4 : Hid ((w3.setCell ⟨w.heap.size, 1, none⟩ (.int .i64 hd)).heap[w.heap.size]? = some (.cells #[.int .i64 key, .int .i64 hd, .int .i64 0, .int .i64 0, .int .i64 0, .int .i64 0, .int .i64 (steps + 1)] 30)) := by
    have := blk_set K3.out 1 (.int .i64 hd)
    exact this
  have R4 : Hid ((w3.setCell ⟨w.heap.size, 1, none⟩ (.int .i64 hd)).heap[w.heap.size + 1]? = some (.cells #[.int .i64 0, .int .i64 0, .int .i64 0, .int .i64 0, .int .i64 0, .int .i64 0, .int .i64 0] 30)) := hidS (blk_other (B := w.heap.size) R3.out (by omega) 1 (.int .i64 hd))
  have G4 : Hid ((w3.setCell ⟨w.heap.size, 1, none⟩ (.int .i64 hd)).heap[g]? = some (.cells #[.slice (some ⟨tb, o2, none⟩) s.slots.length c2, .slice (some ⟨b3, o3, none⟩) s.heads.length c3] 26)) := hidS (blk_other (B := w.heap.size) G3.out (by omega) 1 (.int .i64 hd))
  have P4 : Hid (RowB tb o2 (flat s.slots) ((w3.setCell ⟨w.heap.size, 1, none⟩ (.int .i64 hd)))) := hidS (RowB.other (g := w.heap.size) (k := 1) (v := .int .i64 hd) P3.out (by omega))
  have Q4 : Hid (RowB b3 o3 s.heads ((w3.setCell ⟨w.heap.size, 1, none⟩ (.int .i64 hd)))) := hidS (RowB.other (g := w.heap.size) (k := 1) (v := .int .i64 hd) Q3.out (by omega))
  have T4 : Hid (Tch tb w ((w3.setCell ⟨w.heap.size, 1, none⟩ (.int .i64 hd)))) := hidS (Tch.own T3.out (by omega) 1 (.int .i64 hd))
  clear T3 K3 R3 G3 P3 Q3
  generalize (w3.setCell ⟨w.heap.size, 1, none⟩ (.int .i64 hd)) = w4 at K4 R4 G4 P4 Q4 T4 ⊢
  have k0 := blk_cell K4.out 0
  have k1 := blk_cell K4.out 1
  have k2 := blk_cell K4.out 2
  have k3 := blk_cell K4.out 3
  have k4 := blk_cell K4.out 4
  have k5 := blk_cell K4.out 5
  have k6 := blk_cell K4.out 6
  simp at k0 k1 k2 k3 k4 k5 k6
  have kR := blk_cell R4.out
  have fR := blk_free R4.out
  have hP := P4
  have hT := T4
  go_wp2_with fail
  refine bodyPost_ret (v := .agg #[.int .i64 key, .int .i64 hd, .int .i64 0, .int .i64 0, .int .i64 0, .int .i64 0, .int .i64 (steps + 1)]) (by simp [results, Try.results60, go_sem, *]) rfl ⟨rfl, ?_, ?_⟩
  · repeat (refine RowB.other ?_ (by omega))
    exact hP.out
  · repeat (refine Tch.own ?_ (by omega) _ _)
    exact hT.out
set_option maxHeartbeats 8000000 in
theorem l07Step_hit (g tb o2 c2 b3 o3 c3 : Nat) (s : Slb) (key steps : Int) (N : Nat) (x : Slt) (w : World) (hr : rightSl s = true) (hk0 : 0 ≤ key) (ht0 : 0 ≤ steps) (ht1 : steps < 1000000) (hG : w.heap[g]? = some (.cells #[.slice (some ⟨tb, o2, none⟩) s.slots.length c2, .slice (some ⟨b3, o3, none⟩) s.heads.length c3] 26)) (P : RowB tb o2 (flat s.slots) w) (Q : RowB b3 o3 s.heads w) (n1 : tb ≠ b3) (n2 : tb ≠ g) (hN : N < s.slots.length) (hx : s.slots.getD N zeroSlt = x) (hq : x.key = key) :
    Calls Try.prog 60 #[.pointer (some ⟨g, 0, none⟩), .agg #[.int .i64 key, .int .i64 (N : Int), .int .i64 0, .int .i64 0, .int .i64 0, .int .i64 0, .int .i64 steps]] w fun e w' => e = .returned (.agg #[.int .i64 key, .int .i64 (N : Int), .int .i64 1, .int .i64 0, .int .i64 0, .int .i64 0, .int .i64 (steps + 1)]) ∧ RowB tb o2 (flat s.slots) w' ∧ Tch tb w w' := by
  obtain ⟨_, m1, m2, m3, m4⟩ := right_leads hr
  have hqb : (x.key == key) = true := beq_iff_eq.2 hq
  have hNN : (0 : Int) ≤ (N : Int) ∧ (N : Int) < (s.slots.length : Int) := by omega
  have hNp : ¬ (N : Int) < 0 := by omega
  have K0 : Hid (((w.alloc (.cells #[.int .i64 key, .int .i64 (N : Int), .int .i64 0, .int .i64 0, .int .i64 0, .int .i64 0, .int .i64 steps] 30)).alloc (.cells #[.int .i64 0, .int .i64 0, .int .i64 0, .int .i64 0, .int .i64 0, .int .i64 0, .int .i64 0] 30)).heap[w.heap.size]? = some (.cells #[.int .i64 key, .int .i64 (N : Int), .int .i64 0, .int .i64 0, .int .i64 0, .int .i64 0, .int .i64 steps] 30)) := by
    show _ = _
    have := blk_alloc (heap_newG w (.cells #[.int .i64 key, .int .i64 (N : Int), .int .i64 0, .int .i64 0, .int .i64 0, .int .i64 0, .int .i64 steps] 30)) (.cells #[.int .i64 0, .int .i64 0, .int .i64 0, .int .i64 0, .int .i64 0, .int .i64 0, .int .i64 0] 30)
    simpa using this
  have R0 : Hid (((w.alloc (.cells #[.int .i64 key, .int .i64 (N : Int), .int .i64 0, .int .i64 0, .int .i64 0, .int .i64 0, .int .i64 steps] 30)).alloc (.cells #[.int .i64 0, .int .i64 0, .int .i64 0, .int .i64 0, .int .i64 0, .int .i64 0, .int .i64 0] 30)).heap[w.heap.size + 1]? = some (.cells #[.int .i64 0, .int .i64 0, .int .i64 0, .int .i64 0, .int .i64 0, .int .i64 0, .int .i64 0] 30)) := by
    show _ = _
    have := heap_newG (w.alloc (.cells #[.int .i64 key, .int .i64 (N : Int), .int .i64 0, .int .i64 0, .int .i64 0, .int .i64 0, .int .i64 steps] 30)) (.cells #[.int .i64 0, .int .i64 0, .int .i64 0, .int .i64 0, .int .i64 0, .int .i64 0, .int .i64 0] 30)
    simpa using this
  have hB0 := ((Below.refl w.heap.size w).alloc (Nat.le_refl _) (.cells #[.int .i64 key, .int .i64 (N : Int), .int .i64 0, .int .i64 0, .int .i64 0, .int .i64 0, .int .i64 steps] 30)).alloc (by simp) (.cells #[.int .i64 0, .int .i64 0, .int .i64 0, .int .i64 0, .int .i64 0, .int .i64 0, .int .i64 0] 30)
  have G0 := hidS (blk_later hG hB0)
  have P0 := hidS (P.later hB0)
  have Q0 := hidS (Q.later hB0)
  have T0 := hidS ((Tch.refl tb w).later hB0)
  have lg := blk_lt hG
  have lb := P.lt
  have lq := Q.lt
  clear hB0 hG P Q
  go_enter Try.func60, Try.ntmps60
  go_upto_region 1 with fail
  generalize (w.alloc (.cells #[.int .i64 key, .int .i64 (N : Int), .int .i64 0, .int .i64 0, .int .i64 0, .int .i64 0, .int .i64 steps] 30)).alloc (.cells #[.int .i64 0, .int .i64 0, .int .i64 0, .int .i64 0, .int .i64 0, .int .i64 0, .int .i64 0] 30) = w0 at K0 R0 G0 P0 Q0 T0 ⊢
  have k0 := blk_cell K0.out 0
  have k1 := blk_cell K0.out 1
  have k2 := blk_cell K0.out 2
  have k3 := blk_cell K0.out 3
  have k4 := blk_cell K0.out 4
  have k5 := blk_cell K0.out 5
  have k6 := blk_cell K0.out 6
  simp at k0 k1 k2 k3 k4 k5 k6
  have fK := blk_free K0.out
  go_upto_region 2 with fail
  clear k0 k1 k2 k3 k4 k5 k6 fK
  have K1 : Hid ((w0.setCell ⟨w.heap.size, 6, none⟩ (.int .i64 (steps + 1))).heap[w.heap.size]? = some (.cells #[.int .i64 key, .int .i64 (N : Int), .int .i64 0, .int .i64 0, .int .i64 0, .int .i64 0, .int .i64 (steps + 1)] 30)) := by
    have := blk_set K0.out 6 (.int .i64 (steps + 1))
    exact this
  have R1 : Hid ((w0.setCell ⟨w.heap.size, 6, none⟩ (.int .i64 (steps + 1))).heap[w.heap.size + 1]? = some (.cells #[.int .i64 0, .int .i64 0, .int .i64 0, .int .i64 0, .int .i64 0, .int .i64 0, .int .i64 0] 30)) := hidS (blk_other (B := w.heap.size) R0.out (by omega) 6 (.int .i64 (steps + 1)))
  have G1 : Hid ((w0.setCell ⟨w.heap.size, 6, none⟩ (.int .i64 (steps + 1))).heap[g]? = some (.cells #[.slice (some ⟨tb, o2, none⟩) s.slots.length c2, .slice (some ⟨b3, o3, none⟩) s.heads.length c3] 26)) := hidS (blk_other (B := w.heap.size) G0.out (by omega) 6 (.int .i64 (steps + 1)))
  have P1 : Hid (RowB tb o2 (flat s.slots) ((w0.setCell ⟨w.heap.size, 6, none⟩ (.int .i64 (steps + 1))))) := hidS (RowB.other (g := w.heap.size) (k := 6) (v := .int .i64 (steps + 1)) P0.out (by omega))
  have Q1 : Hid (RowB b3 o3 s.heads ((w0.setCell ⟨w.heap.size, 6, none⟩ (.int .i64 (steps + 1))))) := hidS (RowB.other (g := w.heap.size) (k := 6) (v := .int .i64 (steps + 1)) Q0.out (by omega))
  have T1 : Hid (Tch tb w ((w0.setCell ⟨w.heap.size, 6, none⟩ (.int .i64 (steps + 1))))) := hidS (Tch.own T0.out (by omega) 6 (.int .i64 (steps + 1)))
  clear T0 K0 R0 G0 P0 Q0
  generalize (w0.setCell ⟨w.heap.size, 6, none⟩ (.int .i64 (steps + 1))) = w1 at K1 R1 G1 P1 Q1 T1 ⊢
  have k0 := blk_cell K1.out 0
  have k1 := blk_cell K1.out 1
  have k2 := blk_cell K1.out 2
  have k3 := blk_cell K1.out 3
  have k4 := blk_cell K1.out 4
  have k5 := blk_cell K1.out 5
  have k6 := blk_cell K1.out 6
  simp at k0 k1 k2 k3 k4 k5 k6
  have g0 := blk_cell G1.out 0
  have g1 := blk_cell G1.out 1
  simp at g0 g1
  go_wp2_with fail
  clear k0 k1 k2 k3 k4 k5 k6 g0 g1
  refine grow_struct 9 _ [.is (.pointer (some ⟨g, 0, none⟩)), .is (.pointer (some ⟨g, 0, none⟩)), .is (.pointer (some ⟨g, 0, none⟩)), .is (.slice (some ⟨tb, o2, none⟩) s.slots.length c2), .is (.pointer (some ⟨w.heap.size, 1, none⟩)), .is (.int .i64 (N : Int)), .is (.pointer (some ⟨tb, o2 + N * 4, none⟩)), .is (.agg #[.int .i64 x.key, .int .i64 x.gen, .int .i64 x.refs, .int .i64 x.next]), .blk w1.heap.size #[.int .i64 0, .int .i64 0, .int .i64 0, .int .i64 0] 45] 8 7 5 41 45 45 #[.int .i64 0, .int .i64 0, .int .i64 0, .int .i64 0] #[.int .i64 x.key, .int .i64 x.gen, .int .i64 x.refs, .int .i64 x.next] rfl rfl rfl (by kernel_rfl) (by kernel_rfl) (by kernel_rfl) rfl rfl rfl rfl (by decide) (by decide) rfl rfl rfl (by first | kernel_rfl | simp [Value.oneCell']) (by kernel_rfl) ?steps7 ?fin7
  case steps7 =>
    refine ⟨?_, ?_, ?_, ?_, ?_, ?_, ?_, ?_, ?_, trivial⟩
    · refine ⟨rfl, fun v W ρ hC kc kf ks ki kd => ?_⟩
      have t0 : ρ (.tmp 0) = .pointer (some ⟨g, 0, none⟩) := ki 0 (by decide)
      simp [execOp, go_sem, kc, t0]
      exact ⟨hC, Below.refl _ _, rfl⟩
    · refine ⟨rfl, fun v W ρ hC kc kf ks ki kd => ?_⟩
      have d0 : v 0 = .pointer (some ⟨g, 0, none⟩) := (kdj kd 0 rfl :)
      have t34 : ρ (.tmp 34) = .pointer (some ⟨g, 0, none⟩) := (ks 0 34 (by decide) rfl).trans d0
      simp [execOp, go_sem, kc, t34]
      exact ⟨hC, Below.refl _ _, rfl⟩
    · refine ⟨rfl, fun v W ρ hC kc kf ks ki kd => ?_⟩
      have d1 : v 1 = .pointer (some ⟨g, 0, none⟩) := (kdj kd 1 rfl :)
      have t35 : ρ (.tmp 35) = .pointer (some ⟨g, 0, none⟩) := (ks 1 35 (by decide) rfl).trans d1
      simp [execOp, go_sem, kc, t35]
      exact ⟨hC, Below.refl _ _, rfl⟩
    · refine ⟨rfl, fun v W ρ hC kc kf ks ki kd => ?_⟩
      have d2 : v 2 = .pointer (some ⟨g, 0, none⟩) := (kdj kd 2 rfl :)
      have t36 : ρ (.tmp 36) = .pointer (some ⟨g, 0, none⟩) := (ks 2 36 (by decide) rfl).trans d2
      have hg := blk_later G1.out hC
      have c0 := blk_cell hg 0
      simp at c0
      simp [execOp, go_sem, kc, t36, c0]
      exact ⟨hC, Below.refl _ _, rfl⟩
    · refine ⟨rfl, fun v W ρ hC kc kf ks ki kd => ?_⟩
      have t3 : ρ (.tmp 3) = .pointer (some ⟨w.heap.size, 0, none⟩) := ki 3 (by decide)
      simp [execOp, go_sem, kc, t3]
      exact ⟨hC, Below.refl _ _, rfl⟩
    · refine ⟨rfl, fun v W ρ hC kc kf ks ki kd => ?_⟩
      have d4 : v 4 = .pointer (some ⟨w.heap.size, 1, none⟩) := (kdj kd 4 rfl :)
      have t38 : ρ (.tmp 38) = .pointer (some ⟨w.heap.size, 1, none⟩) := (ks 4 38 (by decide) rfl).trans d4
      have hg := blk_later K1.out hC
      have c1 := blk_cell hg 1
      simp at c1
      simp [execOp, go_sem, kc, t38, c1]
      exact ⟨hC, Below.refl _ _, rfl⟩
    · refine ⟨rfl, fun v W ρ hC kc kf ks ki kd => ?_⟩
      have d3 : v 3 = .slice (some ⟨tb, o2, none⟩) s.slots.length c2 := (kdj kd 3 rfl :)
      have t37 : ρ (.tmp 37) = .slice (some ⟨tb, o2, none⟩) s.slots.length c2 := (ks 3 37 (by decide) rfl).trans d3
      have d5 : v 5 = .int .i64 (N : Int) := (kdj kd 5 rfl :)
      have t39 : ρ (.tmp 39) = .int .i64 (N : Int) := (ks 5 39 (by decide) rfl).trans d5
      simp [execOp, go_sem, kc, t37, t39, hNN]
      exact ⟨hC, Below.refl _ _, rfl⟩
    · refine ⟨rfl, fun v W ρ hC kc kf ks ki kd => ?_⟩
      have d6 : v 6 = .pointer (some ⟨tb, o2 + N * 4, none⟩) := (kdj kd 6 rfl :)
      have t40 : ρ (.tmp 40) = .pointer (some ⟨tb, o2 + N * 4, none⟩) := (ks 6 40 (by decide) rfl).trans d6
      obtain ⟨b', o', eS, lS, d0, d1, d2, d3⟩ := (P1.out.later hC).read.slot hN
      injection eS with eS; injection eS with eS1 eS2
      subst eS1 eS2
      rw [hx] at d0 d1 d2 d3
      simp [execOp, go_sem, kc, t40, d0, d1, d2, d3]
      exact ⟨hC, Below.refl _ _, rfl⟩
    · refine ⟨rfl, fun v W ρ hC kc kf ks ki kd => ?_⟩
      simp [execOp, go_sem]
      exact ⟨hC.alloc hC.size _, (Below.refl _ _).alloc (Nat.le_refl _) _, W.heap.size, rfl, hC.size, heap_newG _ _⟩
  intro v7 w2 gx hb hvB hn hBk hall
  simp [upto, Act.put]
  rw [hvB]
  clear hall hvB
  have hX := hidS hBk
  clear hBk
  have lT := T1.out.size
  have lR := blk_lt R1.out
  have K2 := hidS (blk_later K1.out hb)
  have R2 := hidS (blk_later R1.out hb)
  have G2 := hidS (blk_later G1.out hb)
  have P2 := hidS (P1.out.later hb)
  have Q2 := hidS (Q1.out.later hb)
  have T2 := hidS (T1.out.later hb)
  clear T1 hb K1 R1 G1 P1 Q1
  have X2 := hX
  clear hX
  have k0 := blk_cell K2.out 0
  have k1 := blk_cell K2.out 1
  have k2 := blk_cell K2.out 2
  have k3 := blk_cell K2.out 3
  have k4 := blk_cell K2.out 4
  have k5 := blk_cell K2.out 5
  have k6 := blk_cell K2.out 6
  simp at k0 k1 k2 k3 k4 k5 k6
  have fK := blk_free K2.out
  have x0 := blk_cell X2.out 0
  have x1 := blk_cell X2.out 1
  have x2 := blk_cell X2.out 2
  have x3 := blk_cell X2.out 3
  simp at x0 x1 x2 x3
  go_upto_region 26 with fail
  clear k0 k1 k2 k3 k4 k5 k6 fK x0 x1 x2 x3
  have K3 : Hid ((w2.setCell ⟨w.heap.size, 2, none⟩ (.int .i64 1)).heap[w.heap.size]? = some (.cells #[.int .i64 key, .int .i64 (N : Int), .int .i64 1, .int .i64 0, .int .i64 0, .int .i64 0, .int .i64 (steps + 1)] 30)) := by
    have := blk_set K2.out 2 (.int .i64 1)
    exact this
  have R3 : Hid ((w2.setCell ⟨w.heap.size, 2, none⟩ (.int .i64 1)).heap[w.heap.size + 1]? = some (.cells #[.int .i64 0, .int .i64 0, .int .i64 0, .int .i64 0, .int .i64 0, .int .i64 0, .int .i64 0] 30)) := hidS (blk_other (B := w.heap.size) R2.out (by omega) 2 (.int .i64 1))
  have G3 : Hid ((w2.setCell ⟨w.heap.size, 2, none⟩ (.int .i64 1)).heap[g]? = some (.cells #[.slice (some ⟨tb, o2, none⟩) s.slots.length c2, .slice (some ⟨b3, o3, none⟩) s.heads.length c3] 26)) := hidS (blk_other (B := w.heap.size) G2.out (by omega) 2 (.int .i64 1))
  have P3 : Hid (RowB tb o2 (flat s.slots) ((w2.setCell ⟨w.heap.size, 2, none⟩ (.int .i64 1)))) := hidS (RowB.other (g := w.heap.size) (k := 2) (v := .int .i64 1) P2.out (by omega))
  have Q3 : Hid (RowB b3 o3 s.heads ((w2.setCell ⟨w.heap.size, 2, none⟩ (.int .i64 1)))) := hidS (RowB.other (g := w.heap.size) (k := 2) (v := .int .i64 1) Q2.out (by omega))
  have X3 : Hid ((w2.setCell ⟨w.heap.size, 2, none⟩ (.int .i64 1)).heap[gx]? = some (.cells #[.int .i64 x.key, .int .i64 x.gen, .int .i64 x.refs, .int .i64 x.next] 45)) := hidS (blk_other (B := w.heap.size) X2.out (by omega) 2 (.int .i64 1))
  have T3 : Hid (Tch tb w ((w2.setCell ⟨w.heap.size, 2, none⟩ (.int .i64 1)))) := hidS (Tch.own T2.out (by omega) 2 (.int .i64 1))
  clear T2 K2 R2 G2 P2 Q2 X2
  generalize (w2.setCell ⟨w.heap.size, 2, none⟩ (.int .i64 1)) = w3 at K3 R3 G3 P3 Q3 X3 T3 ⊢
  have k0 := blk_cell K3.out 0
  have k1 := blk_cell K3.out 1
  have k2 := blk_cell K3.out 2
  have k3 := blk_cell K3.out 3
  have k4 := blk_cell K3.out 4
  have k5 := blk_cell K3.out 5
  have k6 := blk_cell K3.out 6
  simp at k0 k1 k2 k3 k4 k5 k6
  have kR := blk_cell R3.out
  have fR := blk_free R3.out
  have hP := P3
  have hT := T3
  go_wp2_with fail
  refine bodyPost_ret (v := .agg #[.int .i64 key, .int .i64 (N : Int), .int .i64 1, .int .i64 0, .int .i64 0, .int .i64 0, .int .i64 (steps + 1)]) (by simp [results, Try.results60, go_sem, *]) rfl ⟨rfl, ?_, ?_⟩
  · repeat (refine RowB.other ?_ (by omega))
    exact hP.out
  · repeat (refine Tch.own ?_ (by omega) _ _)
    exact hT.out
set_option maxHeartbeats 8000000 in
theorem l07Step_miss (g tb o2 c2 b3 o3 c3 : Nat) (s : Slb) (key steps : Int) (N : Nat) (x : Slt) (w : World) (hr : rightSl s = true) (hk0 : 0 ≤ key) (ht0 : 0 ≤ steps) (ht1 : steps < 1000000) (hG : w.heap[g]? = some (.cells #[.slice (some ⟨tb, o2, none⟩) s.slots.length c2, .slice (some ⟨b3, o3, none⟩) s.heads.length c3] 26)) (P : RowB tb o2 (flat s.slots) w) (Q : RowB b3 o3 s.heads w) (n1 : tb ≠ b3) (n2 : tb ≠ g) (hN : N < s.slots.length) (hx : s.slots.getD N zeroSlt = x) (hq : ¬ x.key = key) :
    Calls Try.prog 60 #[.pointer (some ⟨g, 0, none⟩), .agg #[.int .i64 key, .int .i64 (N : Int), .int .i64 0, .int .i64 0, .int .i64 0, .int .i64 0, .int .i64 steps]] w fun e w' => e = .returned (.agg #[.int .i64 key, .int .i64 x.next, .int .i64 0, .int .i64 0, .int .i64 0, .int .i64 0, .int .i64 (steps + 1)]) ∧ RowB tb o2 (flat s.slots) w' ∧ Tch tb w w' := by
  obtain ⟨_, m1, m2, m3, m4⟩ := right_leads hr
  have hqb : (x.key == key) = false := beq_eq_false_iff_ne.2 hq
  have hNN : (0 : Int) ≤ (N : Int) ∧ (N : Int) < (s.slots.length : Int) := by omega
  have hNp : ¬ (N : Int) < 0 := by omega
  have K0 : Hid (((w.alloc (.cells #[.int .i64 key, .int .i64 (N : Int), .int .i64 0, .int .i64 0, .int .i64 0, .int .i64 0, .int .i64 steps] 30)).alloc (.cells #[.int .i64 0, .int .i64 0, .int .i64 0, .int .i64 0, .int .i64 0, .int .i64 0, .int .i64 0] 30)).heap[w.heap.size]? = some (.cells #[.int .i64 key, .int .i64 (N : Int), .int .i64 0, .int .i64 0, .int .i64 0, .int .i64 0, .int .i64 steps] 30)) := by
    show _ = _
    have := blk_alloc (heap_newG w (.cells #[.int .i64 key, .int .i64 (N : Int), .int .i64 0, .int .i64 0, .int .i64 0, .int .i64 0, .int .i64 steps] 30)) (.cells #[.int .i64 0, .int .i64 0, .int .i64 0, .int .i64 0, .int .i64 0, .int .i64 0, .int .i64 0] 30)
    simpa using this
  have R0 : Hid (((w.alloc (.cells #[.int .i64 key, .int .i64 (N : Int), .int .i64 0, .int .i64 0, .int .i64 0, .int .i64 0, .int .i64 steps] 30)).alloc (.cells #[.int .i64 0, .int .i64 0, .int .i64 0, .int .i64 0, .int .i64 0, .int .i64 0, .int .i64 0] 30)).heap[w.heap.size + 1]? = some (.cells #[.int .i64 0, .int .i64 0, .int .i64 0, .int .i64 0, .int .i64 0, .int .i64 0, .int .i64 0] 30)) := by
    show _ = _
    have := heap_newG (w.alloc (.cells #[.int .i64 key, .int .i64 (N : Int), .int .i64 0, .int .i64 0, .int .i64 0, .int .i64 0, .int .i64 steps] 30)) (.cells #[.int .i64 0, .int .i64 0, .int .i64 0, .int .i64 0, .int .i64 0, .int .i64 0, .int .i64 0] 30)
    simpa using this
  have hB0 := ((Below.refl w.heap.size w).alloc (Nat.le_refl _) (.cells #[.int .i64 key, .int .i64 (N : Int), .int .i64 0, .int .i64 0, .int .i64 0, .int .i64 0, .int .i64 steps] 30)).alloc (by simp) (.cells #[.int .i64 0, .int .i64 0, .int .i64 0, .int .i64 0, .int .i64 0, .int .i64 0, .int .i64 0] 30)
  have G0 := hidS (blk_later hG hB0)
  have P0 := hidS (P.later hB0)
  have Q0 := hidS (Q.later hB0)
  have T0 := hidS ((Tch.refl tb w).later hB0)
  have lg := blk_lt hG
  have lb := P.lt
  have lq := Q.lt
  clear hB0 hG P Q
  go_enter Try.func60, Try.ntmps60
  go_upto_region 1 with fail
  generalize (w.alloc (.cells #[.int .i64 key, .int .i64 (N : Int), .int .i64 0, .int .i64 0, .int .i64 0, .int .i64 0, .int .i64 steps] 30)).alloc (.cells #[.int .i64 0, .int .i64 0, .int .i64 0, .int .i64 0, .int .i64 0, .int .i64 0, .int .i64 0] 30) = w0 at K0 R0 G0 P0 Q0 T0 ⊢
  have k0 := blk_cell K0.out 0
  have k1 := blk_cell K0.out 1
  have k2 := blk_cell K0.out 2
  have k3 := blk_cell K0.out 3
  have k4 := blk_cell K0.out 4
  have k5 := blk_cell K0.out 5
  have k6 := blk_cell K0.out 6
  simp at k0 k1 k2 k3 k4 k5 k6
  have fK := blk_free K0.out
  go_upto_region 2 with fail
  clear k0 k1 k2 k3 k4 k5 k6 fK
  have K1 : Hid ((w0.setCell ⟨w.heap.size, 6, none⟩ (.int .i64 (steps + 1))).heap[w.heap.size]? = some (.cells #[.int .i64 key, .int .i64 (N : Int), .int .i64 0, .int .i64 0, .int .i64 0, .int .i64 0, .int .i64 (steps + 1)] 30)) := by
    have := blk_set K0.out 6 (.int .i64 (steps + 1))
    exact this
  have R1 : Hid ((w0.setCell ⟨w.heap.size, 6, none⟩ (.int .i64 (steps + 1))).heap[w.heap.size + 1]? = some (.cells #[.int .i64 0, .int .i64 0, .int .i64 0, .int .i64 0, .int .i64 0, .int .i64 0, .int .i64 0] 30)) := hidS (blk_other (B := w.heap.size) R0.out (by omega) 6 (.int .i64 (steps + 1)))
  have G1 : Hid ((w0.setCell ⟨w.heap.size, 6, none⟩ (.int .i64 (steps + 1))).heap[g]? = some (.cells #[.slice (some ⟨tb, o2, none⟩) s.slots.length c2, .slice (some ⟨b3, o3, none⟩) s.heads.length c3] 26)) := hidS (blk_other (B := w.heap.size) G0.out (by omega) 6 (.int .i64 (steps + 1)))
  have P1 : Hid (RowB tb o2 (flat s.slots) ((w0.setCell ⟨w.heap.size, 6, none⟩ (.int .i64 (steps + 1))))) := hidS (RowB.other (g := w.heap.size) (k := 6) (v := .int .i64 (steps + 1)) P0.out (by omega))
  have Q1 : Hid (RowB b3 o3 s.heads ((w0.setCell ⟨w.heap.size, 6, none⟩ (.int .i64 (steps + 1))))) := hidS (RowB.other (g := w.heap.size) (k := 6) (v := .int .i64 (steps + 1)) Q0.out (by omega))
  have T1 : Hid (Tch tb w ((w0.setCell ⟨w.heap.size, 6, none⟩ (.int .i64 (steps + 1))))) := hidS (Tch.own T0.out (by omega) 6 (.int .i64 (steps + 1)))
  clear T0 K0 R0 G0 P0 Q0
  generalize (w0.setCell ⟨w.heap.size, 6, none⟩ (.int .i64 (steps + 1))) = w1 at K1 R1 G1 P1 Q1 T1 ⊢
  have k0 := blk_cell K1.out 0
  have k1 := blk_cell K1.out 1
  have k2 := blk_cell K1.out 2
  have k3 := blk_cell K1.out 3
  have k4 := blk_cell K1.out 4
  have k5 := blk_cell K1.out 5
  have k6 := blk_cell K1.out 6
  simp at k0 k1 k2 k3 k4 k5 k6
  have g0 := blk_cell G1.out 0
  have g1 := blk_cell G1.out 1
  simp at g0 g1
  go_wp2_with fail
  clear k0 k1 k2 k3 k4 k5 k6 g0 g1
  refine grow_struct 9 _ [.is (.pointer (some ⟨g, 0, none⟩)), .is (.pointer (some ⟨g, 0, none⟩)), .is (.pointer (some ⟨g, 0, none⟩)), .is (.slice (some ⟨tb, o2, none⟩) s.slots.length c2), .is (.pointer (some ⟨w.heap.size, 1, none⟩)), .is (.int .i64 (N : Int)), .is (.pointer (some ⟨tb, o2 + N * 4, none⟩)), .is (.agg #[.int .i64 x.key, .int .i64 x.gen, .int .i64 x.refs, .int .i64 x.next]), .blk w1.heap.size #[.int .i64 0, .int .i64 0, .int .i64 0, .int .i64 0] 45] 8 7 5 41 45 45 #[.int .i64 0, .int .i64 0, .int .i64 0, .int .i64 0] #[.int .i64 x.key, .int .i64 x.gen, .int .i64 x.refs, .int .i64 x.next] rfl rfl rfl (by kernel_rfl) (by kernel_rfl) (by kernel_rfl) rfl rfl rfl rfl (by decide) (by decide) rfl rfl rfl (by first | kernel_rfl | simp [Value.oneCell']) (by kernel_rfl) ?steps7 ?fin7
  case steps7 =>
    refine ⟨?_, ?_, ?_, ?_, ?_, ?_, ?_, ?_, ?_, trivial⟩
    · refine ⟨rfl, fun v W ρ hC kc kf ks ki kd => ?_⟩
      have t0 : ρ (.tmp 0) = .pointer (some ⟨g, 0, none⟩) := ki 0 (by decide)
      simp [execOp, go_sem, kc, t0]
      exact ⟨hC, Below.refl _ _, rfl⟩
    · refine ⟨rfl, fun v W ρ hC kc kf ks ki kd => ?_⟩
      have d0 : v 0 = .pointer (some ⟨g, 0, none⟩) := (kdj kd 0 rfl :)
      have t34 : ρ (.tmp 34) = .pointer (some ⟨g, 0, none⟩) := (ks 0 34 (by decide) rfl).trans d0
      simp [execOp, go_sem, kc, t34]
      exact ⟨hC, Below.refl _ _, rfl⟩
    · refine ⟨rfl, fun v W ρ hC kc kf ks ki kd => ?_⟩
      have d1 : v 1 = .pointer (some ⟨g, 0, none⟩) := (kdj kd 1 rfl :)
      have t35 : ρ (.tmp 35) = .pointer (some ⟨g, 0, none⟩) := (ks 1 35 (by decide) rfl).trans d1
      simp [execOp, go_sem, kc, t35]
      exact ⟨hC, Below.refl _ _, rfl⟩
    · refine ⟨rfl, fun v W ρ hC kc kf ks ki kd => ?_⟩
      have d2 : v 2 = .pointer (some ⟨g, 0, none⟩) := (kdj kd 2 rfl :)
      have t36 : ρ (.tmp 36) = .pointer (some ⟨g, 0, none⟩) := (ks 2 36 (by decide) rfl).trans d2
      have hg := blk_later G1.out hC
      have c0 := blk_cell hg 0
      simp at c0
      simp [execOp, go_sem, kc, t36, c0]
      exact ⟨hC, Below.refl _ _, rfl⟩
    · refine ⟨rfl, fun v W ρ hC kc kf ks ki kd => ?_⟩
      have t3 : ρ (.tmp 3) = .pointer (some ⟨w.heap.size, 0, none⟩) := ki 3 (by decide)
      simp [execOp, go_sem, kc, t3]
      exact ⟨hC, Below.refl _ _, rfl⟩
    · refine ⟨rfl, fun v W ρ hC kc kf ks ki kd => ?_⟩
      have d4 : v 4 = .pointer (some ⟨w.heap.size, 1, none⟩) := (kdj kd 4 rfl :)
      have t38 : ρ (.tmp 38) = .pointer (some ⟨w.heap.size, 1, none⟩) := (ks 4 38 (by decide) rfl).trans d4
      have hg := blk_later K1.out hC
      have c1 := blk_cell hg 1
      simp at c1
      simp [execOp, go_sem, kc, t38, c1]
      exact ⟨hC, Below.refl _ _, rfl⟩
    · refine ⟨rfl, fun v W ρ hC kc kf ks ki kd => ?_⟩
      have d3 : v 3 = .slice (some ⟨tb, o2, none⟩) s.slots.length c2 := (kdj kd 3 rfl :)
      have t37 : ρ (.tmp 37) = .slice (some ⟨tb, o2, none⟩) s.slots.length c2 := (ks 3 37 (by decide) rfl).trans d3
      have d5 : v 5 = .int .i64 (N : Int) := (kdj kd 5 rfl :)
      have t39 : ρ (.tmp 39) = .int .i64 (N : Int) := (ks 5 39 (by decide) rfl).trans d5
      simp [execOp, go_sem, kc, t37, t39, hNN]
      exact ⟨hC, Below.refl _ _, rfl⟩
    · refine ⟨rfl, fun v W ρ hC kc kf ks ki kd => ?_⟩
      have d6 : v 6 = .pointer (some ⟨tb, o2 + N * 4, none⟩) := (kdj kd 6 rfl :)
      have t40 : ρ (.tmp 40) = .pointer (some ⟨tb, o2 + N * 4, none⟩) := (ks 6 40 (by decide) rfl).trans d6
      obtain ⟨b', o', eS, lS, d0, d1, d2, d3⟩ := (P1.out.later hC).read.slot hN
      injection eS with eS; injection eS with eS1 eS2
      subst eS1 eS2
      rw [hx] at d0 d1 d2 d3
      simp [execOp, go_sem, kc, t40, d0, d1, d2, d3]
      exact ⟨hC, Below.refl _ _, rfl⟩
    · refine ⟨rfl, fun v W ρ hC kc kf ks ki kd => ?_⟩
      simp [execOp, go_sem]
      exact ⟨hC.alloc hC.size _, (Below.refl _ _).alloc (Nat.le_refl _) _, W.heap.size, rfl, hC.size, heap_newG _ _⟩
  intro v7 w2 gx hb hvB hn hBk hall
  simp [upto, Act.put]
  rw [hvB]
  clear hall hvB
  have hX := hidS hBk
  clear hBk
  have lT := T1.out.size
  have lR := blk_lt R1.out
  have K2 := hidS (blk_later K1.out hb)
  have R2 := hidS (blk_later R1.out hb)
  have G2 := hidS (blk_later G1.out hb)
  have P2 := hidS (P1.out.later hb)
  have Q2 := hidS (Q1.out.later hb)
  have T2 := hidS (T1.out.later hb)
  clear T1 hb K1 R1 G1 P1 Q1
  have X2 := hX
  clear hX
  have k0 := blk_cell K2.out 0
  have k1 := blk_cell K2.out 1
  have k2 := blk_cell K2.out 2
  have k3 := blk_cell K2.out 3
  have k4 := blk_cell K2.out 4
  have k5 := blk_cell K2.out 5
  have k6 := blk_cell K2.out 6
  simp at k0 k1 k2 k3 k4 k5 k6
  have fK := blk_free K2.out
  have x0 := blk_cell X2.out 0
  have x1 := blk_cell X2.out 1
  have x2 := blk_cell X2.out 2
  have x3 := blk_cell X2.out 3
  simp at x0 x1 x2 x3
  go_upto_region 26 with fail
  clear k0 k1 k2 k3 k4 k5 k6 fK x0 x1 x2 x3
  have K3 : Hid ((w2.setCell ⟨w.heap.size, 1, none⟩ (.int .i64 x.next)).heap[w.heap.size]? = some (.cells #[.int .i64 key, .int .i64 x.next, .int .i64 0, .int .i64 0, .int .i64 0, .int .i64 0, .int .i64 (steps + 1)] 30)) := by
    have := blk_set K2.out 1 (.int .i64 x.next)
    exact this
  have R3 : Hid ((w2.setCell ⟨w.heap.size, 1, none⟩ (.int .i64 x.next)).heap[w.heap.size + 1]? = some (.cells #[.int .i64 0, .int .i64 0, .int .i64 0, .int .i64 0, .int .i64 0, .int .i64 0, .int .i64 0] 30)) := hidS (blk_other (B := w.heap.size) R2.out (by omega) 1 (.int .i64 x.next))
  have G3 : Hid ((w2.setCell ⟨w.heap.size, 1, none⟩ (.int .i64 x.next)).heap[g]? = some (.cells #[.slice (some ⟨tb, o2, none⟩) s.slots.length c2, .slice (some ⟨b3, o3, none⟩) s.heads.length c3] 26)) := hidS (blk_other (B := w.heap.size) G2.out (by omega) 1 (.int .i64 x.next))
  have P3 : Hid (RowB tb o2 (flat s.slots) ((w2.setCell ⟨w.heap.size, 1, none⟩ (.int .i64 x.next)))) := hidS (RowB.other (g := w.heap.size) (k := 1) (v := .int .i64 x.next) P2.out (by omega))
  have Q3 : Hid (RowB b3 o3 s.heads ((w2.setCell ⟨w.heap.size, 1, none⟩ (.int .i64 x.next)))) := hidS (RowB.other (g := w.heap.size) (k := 1) (v := .int .i64 x.next) Q2.out (by omega))
  have X3 : Hid ((w2.setCell ⟨w.heap.size, 1, none⟩ (.int .i64 x.next)).heap[gx]? = some (.cells #[.int .i64 x.key, .int .i64 x.gen, .int .i64 x.refs, .int .i64 x.next] 45)) := hidS (blk_other (B := w.heap.size) X2.out (by omega) 1 (.int .i64 x.next))
  have T3 : Hid (Tch tb w ((w2.setCell ⟨w.heap.size, 1, none⟩ (.int .i64 x.next)))) := hidS (Tch.own T2.out (by omega) 1 (.int .i64 x.next))
  clear T2 K2 R2 G2 P2 Q2 X2
  generalize (w2.setCell ⟨w.heap.size, 1, none⟩ (.int .i64 x.next)) = w3 at K3 R3 G3 P3 Q3 X3 T3 ⊢
  have k0 := blk_cell K3.out 0
  have k1 := blk_cell K3.out 1
  have k2 := blk_cell K3.out 2
  have k3 := blk_cell K3.out 3
  have k4 := blk_cell K3.out 4
  have k5 := blk_cell K3.out 5
  have k6 := blk_cell K3.out 6
  simp at k0 k1 k2 k3 k4 k5 k6
  have kR := blk_cell R3.out
  have fR := blk_free R3.out
  have hP := P3
  have hT := T3
  go_wp2_with fail
  refine bodyPost_ret (v := .agg #[.int .i64 key, .int .i64 x.next, .int .i64 0, .int .i64 0, .int .i64 0, .int .i64 0, .int .i64 (steps + 1)]) (by simp [results, Try.results60, go_sem, *]) rfl ⟨rfl, ?_, ?_⟩
  · repeat (refine RowB.other ?_ (by omega))
    exact hP.out
  · repeat (refine Tch.own ?_ (by omega) _ _)
    exact hT.out
set_option maxHeartbeats 8000000 in
theorem l07Step_free (g tb o2 c2 b3 o3 c3 : Nat) (s : Slb) (key steps : Int) (N : Nat) (x : Slt) (w : World) (hr : rightSl s = true) (hk0 : 0 ≤ key) (ht0 : 0 ≤ steps) (ht1 : steps < 1000000) (hG : w.heap[g]? = some (.cells #[.slice (some ⟨tb, o2, none⟩) s.slots.length c2, .slice (some ⟨b3, o3, none⟩) s.heads.length c3] 26)) (P : RowB tb o2 (flat s.slots) w) (Q : RowB b3 o3 s.heads w) (n1 : tb ≠ b3) (n2 : tb ≠ g) (hN : N < s.slots.length) (hx : s.slots.getD N zeroSlt = x) (hq : x.refs = 0) :
    Calls Try.prog 60 #[.pointer (some ⟨g, 0, none⟩), .agg #[.int .i64 key, .int .i64 (N : Int), .int .i64 1, .int .i64 0, .int .i64 0, .int .i64 0, .int .i64 steps]] w fun e w' => e = .returned (.agg #[.int .i64 key, .int .i64 (hdK s key), .int .i64 0, .int .i64 0, .int .i64 0, .int .i64 0, .int .i64 (steps + 1)]) ∧ RowB tb o2 (flat s.slots) w' ∧ Tch tb w w' := by
  obtain ⟨_, m1, m2, m3, m4⟩ := right_leads hr
  have HH := hidS (fun W (h : RowZ (some ⟨b3, o3, none⟩) s.heads W) => l07Head_any tb o2 b3 o3 c2 c3 s key W h hk0 m3 m4)
  generalize hdK s key = hd at HH ⊢
  have hqb : (x.refs == 0) = true := beq_iff_eq.2 hq
  have hNN : (0 : Int) ≤ (N : Int) ∧ (N : Int) < (s.slots.length : Int) := by omega
  have hNp : ¬ (N : Int) < 0 := by omega
  have K0 : Hid (((w.alloc (.cells #[.int .i64 key, .int .i64 (N : Int), .int .i64 1, .int .i64 0, .int .i64 0, .int .i64 0, .int .i64 steps] 30)).alloc (.cells #[.int .i64 0, .int .i64 0, .int .i64 0, .int .i64 0, .int .i64 0, .int .i64 0, .int .i64 0] 30)).heap[w.heap.size]? = some (.cells #[.int .i64 key, .int .i64 (N : Int), .int .i64 1, .int .i64 0, .int .i64 0, .int .i64 0, .int .i64 steps] 30)) := by
    show _ = _
    have := blk_alloc (heap_newG w (.cells #[.int .i64 key, .int .i64 (N : Int), .int .i64 1, .int .i64 0, .int .i64 0, .int .i64 0, .int .i64 steps] 30)) (.cells #[.int .i64 0, .int .i64 0, .int .i64 0, .int .i64 0, .int .i64 0, .int .i64 0, .int .i64 0] 30)
    simpa using this
  have R0 : Hid (((w.alloc (.cells #[.int .i64 key, .int .i64 (N : Int), .int .i64 1, .int .i64 0, .int .i64 0, .int .i64 0, .int .i64 steps] 30)).alloc (.cells #[.int .i64 0, .int .i64 0, .int .i64 0, .int .i64 0, .int .i64 0, .int .i64 0, .int .i64 0] 30)).heap[w.heap.size + 1]? = some (.cells #[.int .i64 0, .int .i64 0, .int .i64 0, .int .i64 0, .int .i64 0, .int .i64 0, .int .i64 0] 30)) := by
    show _ = _
    have := heap_newG (w.alloc (.cells #[.int .i64 key, .int .i64 (N : Int), .int .i64 1, .int .i64 0, .int .i64 0, .int .i64 0, .int .i64 steps] 30)) (.cells #[.int .i64 0, .int .i64 0, .int .i64 0, .int .i64 0, .int .i64 0, .int .i64 0, .int .i64 0] 30)
    simpa using this
  have hB0 := ((Below.refl w.heap.size w).alloc (Nat.le_refl _) (.cells #[.int .i64 key, .int .i64 (N : Int), .int .i64 1, .int .i64 0, .int .i64 0, .int .i64 0, .int .i64 steps] 30)).alloc (by simp) (.cells #[.int .i64 0, .int .i64 0, .int .i64 0, .int .i64 0, .int .i64 0, .int .i64 0, .int .i64 0] 30)
  have G0 := hidS (blk_later hG hB0)
  have P0 := hidS (P.later hB0)
  have Q0 := hidS (Q.later hB0)
  have T0 := hidS ((Tch.refl tb w).later hB0)
  have lg := blk_lt hG
  have lb := P.lt
  have lq := Q.lt
  clear hB0 hG P Q
  go_enter Try.func60, Try.ntmps60
  go_upto_region 1 with fail
  generalize (w.alloc (.cells #[.int .i64 key, .int .i64 (N : Int), .int .i64 1, .int .i64 0, .int .i64 0, .int .i64 0, .int .i64 steps] 30)).alloc (.cells #[.int .i64 0, .int .i64 0, .int .i64 0, .int .i64 0, .int .i64 0, .int .i64 0, .int .i64 0] 30) = w0 at K0 R0 G0 P0 Q0 T0 ⊢
  have k0 := blk_cell K0.out 0
  have k1 := blk_cell K0.out 1
  have k2 := blk_cell K0.out 2
  have k3 := blk_cell K0.out 3
  have k4 := blk_cell K0.out 4
  have k5 := blk_cell K0.out 5
  have k6 := blk_cell K0.out 6
  simp at k0 k1 k2 k3 k4 k5 k6
  have fK := blk_free K0.out
  go_upto_region 2 with fail
  clear k0 k1 k2 k3 k4 k5 k6 fK
  have K1 : Hid ((w0.setCell ⟨w.heap.size, 6, none⟩ (.int .i64 (steps + 1))).heap[w.heap.size]? = some (.cells #[.int .i64 key, .int .i64 (N : Int), .int .i64 1, .int .i64 0, .int .i64 0, .int .i64 0, .int .i64 (steps + 1)] 30)) := by
    have := blk_set K0.out 6 (.int .i64 (steps + 1))
    exact this
  have R1 : Hid ((w0.setCell ⟨w.heap.size, 6, none⟩ (.int .i64 (steps + 1))).heap[w.heap.size + 1]? = some (.cells #[.int .i64 0, .int .i64 0, .int .i64 0, .int .i64 0, .int .i64 0, .int .i64 0, .int .i64 0] 30)) := hidS (blk_other (B := w.heap.size) R0.out (by omega) 6 (.int .i64 (steps + 1)))
  have G1 : Hid ((w0.setCell ⟨w.heap.size, 6, none⟩ (.int .i64 (steps + 1))).heap[g]? = some (.cells #[.slice (some ⟨tb, o2, none⟩) s.slots.length c2, .slice (some ⟨b3, o3, none⟩) s.heads.length c3] 26)) := hidS (blk_other (B := w.heap.size) G0.out (by omega) 6 (.int .i64 (steps + 1)))
  have P1 : Hid (RowB tb o2 (flat s.slots) ((w0.setCell ⟨w.heap.size, 6, none⟩ (.int .i64 (steps + 1))))) := hidS (RowB.other (g := w.heap.size) (k := 6) (v := .int .i64 (steps + 1)) P0.out (by omega))
  have Q1 : Hid (RowB b3 o3 s.heads ((w0.setCell ⟨w.heap.size, 6, none⟩ (.int .i64 (steps + 1))))) := hidS (RowB.other (g := w.heap.size) (k := 6) (v := .int .i64 (steps + 1)) Q0.out (by omega))
  have T1 : Hid (Tch tb w ((w0.setCell ⟨w.heap.size, 6, none⟩ (.int .i64 (steps + 1))))) := hidS (Tch.own T0.out (by omega) 6 (.int .i64 (steps + 1)))
  clear T0 K0 R0 G0 P0 Q0
  generalize (w0.setCell ⟨w.heap.size, 6, none⟩ (.int .i64 (steps + 1))) = w1 at K1 R1 G1 P1 Q1 T1 ⊢
  have k0 := blk_cell K1.out 0
  have k1 := blk_cell K1.out 1
  have k2 := blk_cell K1.out 2
  have k3 := blk_cell K1.out 3
  have k4 := blk_cell K1.out 4
  have k5 := blk_cell K1.out 5
  have k6 := blk_cell K1.out 6
  simp at k0 k1 k2 k3 k4 k5 k6
  have g0 := blk_cell G1.out 0
  have g1 := blk_cell G1.out 1
  simp at g0 g1
  go_wp2_with fail
  clear k0 k1 k2 k3 k4 k5 k6 g0 g1
  refine grow_struct 9 _ [.is (.pointer (some ⟨g, 0, none⟩)), .is (.pointer (some ⟨g, 0, none⟩)), .is (.pointer (some ⟨g, 0, none⟩)), .is (.slice (some ⟨tb, o2, none⟩) s.slots.length c2), .is (.pointer (some ⟨w.heap.size, 1, none⟩)), .is (.int .i64 (N : Int)), .is (.pointer (some ⟨tb, o2 + N * 4, none⟩)), .is (.agg #[.int .i64 x.key, .int .i64 x.gen, .int .i64 x.refs, .int .i64 x.next]), .blk w1.heap.size #[.int .i64 0, .int .i64 0, .int .i64 0, .int .i64 0] 45] 8 7 5 41 45 45 #[.int .i64 0, .int .i64 0, .int .i64 0, .int .i64 0] #[.int .i64 x.key, .int .i64 x.gen, .int .i64 x.refs, .int .i64 x.next] rfl rfl rfl (by kernel_rfl) (by kernel_rfl) (by kernel_rfl) rfl rfl rfl rfl (by decide) (by decide) rfl rfl rfl (by first | kernel_rfl | simp [Value.oneCell']) (by kernel_rfl) ?steps7 ?fin7
  case steps7 =>
    refine ⟨?_, ?_, ?_, ?_, ?_, ?_, ?_, ?_, ?_, trivial⟩
    · refine ⟨rfl, fun v W ρ hC kc kf ks ki kd => ?_⟩
      have t0 : ρ (.tmp 0) = .pointer (some ⟨g, 0, none⟩) := ki 0 (by decide)
      simp [execOp, go_sem, kc, t0]
      exact ⟨hC, Below.refl _ _, rfl⟩
    · refine ⟨rfl, fun v W ρ hC kc kf ks ki kd => ?_⟩
      have d0 : v 0 = .pointer (some ⟨g, 0, none⟩) := (kdj kd 0 rfl :)
      have t34 : ρ (.tmp 34) = .pointer (some ⟨g, 0, none⟩) := (ks 0 34 (by decide) rfl).trans d0
      simp [execOp, go_sem, kc, t34]
      exact ⟨hC, Below.refl _ _, rfl⟩
    · refine ⟨rfl, fun v W ρ hC kc kf ks ki kd => ?_⟩
      have d1 : v 1 = .pointer (some ⟨g, 0, none⟩) := (kdj kd 1 rfl :)
      have t35 : ρ (.tmp 35) = .pointer (some ⟨g, 0, none⟩) := (ks 1 35 (by decide) rfl).trans d1
      simp [execOp, go_sem, kc, t35]
      exact ⟨hC, Below.refl _ _, rfl⟩
    · refine ⟨rfl, fun v W ρ hC kc kf ks ki kd => ?_⟩
      have d2 : v 2 = .pointer (some ⟨g, 0, none⟩) := (kdj kd 2 rfl :)
      have t36 : ρ (.tmp 36) = .pointer (some ⟨g, 0, none⟩) := (ks 2 36 (by decide) rfl).trans d2
      have hg := blk_later G1.out hC
      have c0 := blk_cell hg 0
      simp at c0
      simp [execOp, go_sem, kc, t36, c0]
      exact ⟨hC, Below.refl _ _, rfl⟩
    · refine ⟨rfl, fun v W ρ hC kc kf ks ki kd => ?_⟩
      have t3 : ρ (.tmp 3) = .pointer (some ⟨w.heap.size, 0, none⟩) := ki 3 (by decide)
      simp [execOp, go_sem, kc, t3]
      exact ⟨hC, Below.refl _ _, rfl⟩
    · refine ⟨rfl, fun v W ρ hC kc kf ks ki kd => ?_⟩
      have d4 : v 4 = .pointer (some ⟨w.heap.size, 1, none⟩) := (kdj kd 4 rfl :)
      have t38 : ρ (.tmp 38) = .pointer (some ⟨w.heap.size, 1, none⟩) := (ks 4 38 (by decide) rfl).trans d4
      have hg := blk_later K1.out hC
      have c1 := blk_cell hg 1
      simp at c1
      simp [execOp, go_sem, kc, t38, c1]
      exact ⟨hC, Below.refl _ _, rfl⟩
    · refine ⟨rfl, fun v W ρ hC kc kf ks ki kd => ?_⟩
      have d3 : v 3 = .slice (some ⟨tb, o2, none⟩) s.slots.length c2 := (kdj kd 3 rfl :)
      have t37 : ρ (.tmp 37) = .slice (some ⟨tb, o2, none⟩) s.slots.length c2 := (ks 3 37 (by decide) rfl).trans d3
      have d5 : v 5 = .int .i64 (N : Int) := (kdj kd 5 rfl :)
      have t39 : ρ (.tmp 39) = .int .i64 (N : Int) := (ks 5 39 (by decide) rfl).trans d5
      simp [execOp, go_sem, kc, t37, t39, hNN]
      exact ⟨hC, Below.refl _ _, rfl⟩
    · refine ⟨rfl, fun v W ρ hC kc kf ks ki kd => ?_⟩
      have d6 : v 6 = .pointer (some ⟨tb, o2 + N * 4, none⟩) := (kdj kd 6 rfl :)
      have t40 : ρ (.tmp 40) = .pointer (some ⟨tb, o2 + N * 4, none⟩) := (ks 6 40 (by decide) rfl).trans d6
      obtain ⟨b', o', eS, lS, d0, d1, d2, d3⟩ := (P1.out.later hC).read.slot hN
      injection eS with eS; injection eS with eS1 eS2
      subst eS1 eS2
      rw [hx] at d0 d1 d2 d3
      simp [execOp, go_sem, kc, t40, d0, d1, d2, d3]
      exact ⟨hC, Below.refl _ _, rfl⟩
    · refine ⟨rfl, fun v W ρ hC kc kf ks ki kd => ?_⟩
      simp [execOp, go_sem]
      exact ⟨hC.alloc hC.size _, (Below.refl _ _).alloc (Nat.le_refl _) _, W.heap.size, rfl, hC.size, heap_newG _ _⟩
  intro v7 w2 gx hb hvB hn hBk hall
  simp [upto, Act.put]
  rw [hvB]
  clear hall hvB
  have hX := hidS hBk
  clear hBk
  have lT := T1.out.size
  have lR := blk_lt R1.out
  have K2 := hidS (blk_later K1.out hb)
  have R2 := hidS (blk_later R1.out hb)
  have G2 := hidS (blk_later G1.out hb)
  have P2 := hidS (P1.out.later hb)
  have Q2 := hidS (Q1.out.later hb)
  have T2 := hidS (T1.out.later hb)
  clear T1 hb K1 R1 G1 P1 Q1
  have X2 := hX
  clear hX
  have k0 := blk_cell K2.out 0
  have k1 := blk_cell K2.out 1
  have k2 := blk_cell K2.out 2
  have k3 := blk_cell K2.out 3
  have k4 := blk_cell K2.out 4
  have k5 := blk_cell K2.out 5
  have k6 := blk_cell K2.out 6
  simp at k0 k1 k2 k3 k4 k5 k6
  have fK := blk_free K2.out
  have x0 := blk_cell X2.out 0
  have x1 := blk_cell X2.out 1
  have x2 := blk_cell X2.out 2
  have x3 := blk_cell X2.out 3
  simp at x0 x1 x2 x3
  go_upto_region 23 with fail
  clear k0 k1 k2 k3 k4 k5 k6 fK x0 x1 x2 x3
  have K3 : Hid ((w2.setCell ⟨w.heap.size, 2, none⟩ (.int .i64 0)).heap[w.heap.size]? = some (.cells #[.int .i64 key, .int .i64 (N : Int), .int .i64 0, .int .i64 0, .int .i64 0, .int .i64 0, .int .i64 (steps + 1)] 30)) := by
    have := blk_set K2.out 2 (.int .i64 0)
    exact this
  have R3 : Hid ((w2.setCell ⟨w.heap.size, 2, none⟩ (.int .i64 0)).heap[w.heap.size + 1]? = some (.cells #[.int .i64 0, .int .i64 0, .int .i64 0, .int .i64 0, .int .i64 0, .int .i64 0, .int .i64 0] 30)) := hidS (blk_other (B := w.heap.size) R2.out (by omega) 2 (.int .i64 0))
  have G3 : Hid ((w2.setCell ⟨w.heap.size, 2, none⟩ (.int .i64 0)).heap[g]? = some (.cells #[.slice (some ⟨tb, o2, none⟩) s.slots.length c2, .slice (some ⟨b3, o3, none⟩) s.heads.length c3] 26)) := hidS (blk_other (B := w.heap.size) G2.out (by omega) 2 (.int .i64 0))
  have P3 : Hid (RowB tb o2 (flat s.slots) ((w2.setCell ⟨w.heap.size, 2, none⟩ (.int .i64 0)))) := hidS (RowB.other (g := w.heap.size) (k := 2) (v := .int .i64 0) P2.out (by omega))
  have Q3 : Hid (RowB b3 o3 s.heads ((w2.setCell ⟨w.heap.size, 2, none⟩ (.int .i64 0)))) := hidS (RowB.other (g := w.heap.size) (k := 2) (v := .int .i64 0) Q2.out (by omega))
  have X3 : Hid ((w2.setCell ⟨w.heap.size, 2, none⟩ (.int .i64 0)).heap[gx]? = some (.cells #[.int .i64 x.key, .int .i64 x.gen, .int .i64 x.refs, .int .i64 x.next] 45)) := hidS (blk_other (B := w.heap.size) X2.out (by omega) 2 (.int .i64 0))
  have T3 : Hid (Tch tb w ((w2.setCell ⟨w.heap.size, 2, none⟩ (.int .i64 0)))) := hidS (Tch.own T2.out (by omega) 2 (.int .i64 0))
  clear T2 K2 R2 G2 P2 Q2 X2
  generalize (w2.setCell ⟨w.heap.size, 2, none⟩ (.int .i64 0)) = w3 at K3 R3 G3 P3 Q3 X3 T3 ⊢
  go_wp2_with fail
  refine grow_cell 7 _ [isP (.pointer (some ⟨g, 0, none⟩)), isP (.pointer (some ⟨g, 0, none⟩)), isP (.agg #[.slice (some ⟨tb, o2, none⟩) s.slots.length c2, .slice (some ⟨b3, o3, none⟩) s.heads.length c3]), isP (.pointer (some ⟨w.heap.size, 0, none⟩)), isP (.int .i64 key), isP (.int .i64 hd), isP (.pointer (some ⟨w.heap.size, 1, none⟩))] 6 5 103 102 2 30 w.heap.size 1 hd #[.int .i64 key, .int .i64 (N : Int), .int .i64 0, .int .i64 0, .int .i64 0, .int .i64 0, .int .i64 (steps + 1)] rfl rfl rfl (by kernel_rfl) (by kernel_rfl) (by kernel_rfl) ⟨(fun v W W' h _ => h), (fun v W W' h _ => h), (fun v W W' h _ => h), (fun v W W' h _ => h), (fun v W W' h _ => h), (fun v W W' h _ => h), (fun v W W' h _ => h), trivial⟩ (by decide) (by decide) (by decide) rfl rfl rfl rfl K3.out (by simp) (fun v W h => h) (fun v W h => h) (by kernel_rfl) ?steps23 ?fin23
  case steps23 =>
    refine ⟨?_, ?_, ?_, ?_, ?_, ?_, ?_, trivial⟩
    · refine ⟨rfl, fun v W ρ hC kc kf ks ki kd => ?_⟩
      have t0 : ρ (.tmp 0) = .pointer (some ⟨g, 0, none⟩) := ki 0 (by decide)
      simp [execOp, go_sem, kc, t0]
      simp only [RanS]
      first | exact ⟨hC, Below.refl _ _, rfl⟩ | exact ⟨hC, Below.refl _ _, rfl, by first | exact fun _ _ => trivial | exact fun h => absurd h (by decide), by first | exact fun _ _ => trivial | exact fun h => absurd h (by decide)⟩
    · refine ⟨rfl, fun v W ρ hC kc kf ks ki kd => ?_⟩
      have d0 : v 0 = .pointer (some ⟨g, 0, none⟩) := (kdj kd 0 rfl :)
      have t97 : ρ (.tmp 97) = .pointer (some ⟨g, 0, none⟩) := (ks 0 97 (by decide) rfl).trans d0
      simp [execOp, go_sem, kc, t97]
      simp only [RanS]
      first | exact ⟨hC, Below.refl _ _, rfl⟩ | exact ⟨hC, Below.refl _ _, rfl, by first | exact fun _ _ => trivial | exact fun h => absurd h (by decide), by first | exact fun _ _ => trivial | exact fun h => absurd h (by decide)⟩
    · refine ⟨rfl, fun v W ρ hC kc kf ks ki kd => ?_⟩
      have d1 : v 1 = .pointer (some ⟨g, 0, none⟩) := (kdj kd 1 rfl :)
      have t98 : ρ (.tmp 98) = .pointer (some ⟨g, 0, none⟩) := (ks 1 98 (by decide) rfl).trans d1
      have hg := blk_later G3.out hC
      have c0 := blk_cell hg 0
      have c1 := blk_cell hg 1
      simp at c0 c1
      simp [execOp, go_sem, kc, t98, c0, c1]
      simp only [RanS]
      first | exact ⟨hC, Below.refl _ _, rfl⟩ | exact ⟨hC, Below.refl _ _, rfl, by first | exact fun _ _ => trivial | exact fun h => absurd h (by decide), by first | exact fun _ _ => trivial | exact fun h => absurd h (by decide)⟩
    · refine ⟨rfl, fun v W ρ hC kc kf ks ki kd => ?_⟩
      have t3 : ρ (.tmp 3) = .pointer (some ⟨w.heap.size, 0, none⟩) := ki 3 (by decide)
      simp [execOp, go_sem, kc, t3]
      simp only [RanS]
      first | exact ⟨hC, Below.refl _ _, rfl⟩ | exact ⟨hC, Below.refl _ _, rfl, by first | exact fun _ _ => trivial | exact fun h => absurd h (by decide), by first | exact fun _ _ => trivial | exact fun h => absurd h (by decide)⟩
    · refine ⟨rfl, fun v W ρ hC kc kf ks ki kd => ?_⟩
      have d3 : v 3 = .pointer (some ⟨w.heap.size, 0, none⟩) := (kdj kd 3 rfl :)
      have t100 : ρ (.tmp 100) = .pointer (some ⟨w.heap.size, 0, none⟩) := (ks 3 100 (by decide) rfl).trans d3
      have hg := blk_later K3.out hC
      have c0 := blk_cell hg 0
      simp at c0
      simp [execOp, go_sem, kc, t100, c0]
      simp only [RanS]
      first | exact ⟨hC, Below.refl _ _, rfl⟩ | exact ⟨hC, Below.refl _ _, rfl, by first | exact fun _ _ => trivial | exact fun h => absurd h (by decide), by first | exact fun _ _ => trivial | exact fun h => absurd h (by decide)⟩
    · refine ⟨rfl, fun v W ρ hC kc kf ks ki kd => ?_⟩
      have d2 : v 2 = .agg #[.slice (some ⟨tb, o2, none⟩) s.slots.length c2, .slice (some ⟨b3, o3, none⟩) s.heads.length c3] := (kdj kd 2 rfl :)
      have t99 : ρ (.tmp 99) = .agg #[.slice (some ⟨tb, o2, none⟩) s.slots.length c2, .slice (some ⟨b3, o3, none⟩) s.heads.length c3] := (ks 2 99 (by decide) rfl).trans d2
      have d4 : v 4 = .int .i64 key := (kdj kd 4 rfl :)
      have t101 : ρ (.tmp 101) = .int .i64 key := (ks 4 101 (by decide) rfl).trans d4
      simp [execOp, go_sem, t99, t101, kf]
      simp only [RanS]
      first | exact Calls.mono (HH.out W (Q3.out.later hC).read) (fun e x h => ⟨_, h.1, hC.trans (h.2.mono hC.size), h.2, rfl⟩) | exact Calls.mono (HH.out W (Q3.out.later hC).read) (fun e x h => ⟨_, h.1, hC.trans (h.2.mono hC.size), h.2, rfl, by first | exact fun _ _ => trivial | exact fun h => absurd h (by decide), by first | exact fun _ _ => trivial | exact fun h => absurd h (by decide)⟩)
    · refine ⟨rfl, fun v W ρ hC kc kf ks ki kd => ?_⟩
      have t3 : ρ (.tmp 3) = .pointer (some ⟨w.heap.size, 0, none⟩) := ki 3 (by decide)
      simp [execOp, go_sem, kc, t3]
      simp only [RanS]
      first | exact ⟨hC, Below.refl _ _, rfl⟩ | exact ⟨hC, Below.refl _ _, rfl, by first | exact fun _ _ => trivial | exact fun h => absurd h (by decide), by first | exact fun _ _ => trivial | exact fun h => absurd h (by decide)⟩
  intro v23 w4 hb
  simp [upto, Act.put]
  have K4 := hidS (blk_later K3.out hb)
  have R4 := hidS (blk_later R3.out hb)
  have G4 := hidS (blk_later G3.out hb)
  have P4 := hidS (P3.out.later hb)
  have Q4 := hidS (Q3.out.later hb)
  have X4 := hidS (blk_later X3.out hb)
  have T4 := hidS (T3.out.later hb)
  clear T3 hb K3 R3 G3 P3 Q3 X3
  have K5 : Hid ((w4.setCell ⟨w.heap.size, 1, none⟩ (.int .i64 hd)).heap[w.heap.size]? = some (.cells #[.int .i64 key, .int .i64 hd, .int .i64 0, .int .i64 0, .int .i64 0, .int .i64 0, .int .i64 (steps + 1)] 30)) := by
    have := blk_set K4.out 1 (.int .i64 hd)
    exact this
  have R5 : Hid ((w4.setCell ⟨w.heap.size, 1, none⟩ (.int .i64 hd)).heap[w.heap.size + 1]? = some (.cells #[.int .i64 0, .int .i64 0, .int .i64 0, .int .i64 0, .int .i64 0, .int .i64 0, .int .i64 0] 30)) := hidS (blk_other (B := w.heap.size) R4.out (by omega) 1 (.int .i64 hd))
  have G5 : Hid ((w4.setCell ⟨w.heap.size, 1, none⟩ (.int .i64 hd)).heap[g]? = some (.cells #[.slice (some ⟨tb, o2, none⟩) s.slots.length c2, .slice (some ⟨b3, o3, none⟩) s.heads.length c3] 26)) := hidS (blk_other (B := w.heap.size) G4.out (by omega) 1 (.int .i64 hd))
  have P5 : Hid (RowB tb o2 (flat s.slots) ((w4.setCell ⟨w.heap.size, 1, none⟩ (.int .i64 hd)))) := hidS (RowB.other (g := w.heap.size) (k := 1) (v := .int .i64 hd) P4.out (by omega))
  have Q5 : Hid (RowB b3 o3 s.heads ((w4.setCell ⟨w.heap.size, 1, none⟩ (.int .i64 hd)))) := hidS (RowB.other (g := w.heap.size) (k := 1) (v := .int .i64 hd) Q4.out (by omega))
  have X5 : Hid ((w4.setCell ⟨w.heap.size, 1, none⟩ (.int .i64 hd)).heap[gx]? = some (.cells #[.int .i64 x.key, .int .i64 x.gen, .int .i64 x.refs, .int .i64 x.next] 45)) := hidS (blk_other (B := w.heap.size) X4.out (by omega) 1 (.int .i64 hd))
  have T5 : Hid (Tch tb w ((w4.setCell ⟨w.heap.size, 1, none⟩ (.int .i64 hd)))) := hidS (Tch.own T4.out (by omega) 1 (.int .i64 hd))
  clear T4 K4 R4 G4 P4 Q4 X4
  generalize (w4.setCell ⟨w.heap.size, 1, none⟩ (.int .i64 hd)) = w5 at K5 R5 G5 P5 Q5 X5 T5 ⊢
  have k0 := blk_cell K5.out 0
  have k1 := blk_cell K5.out 1
  have k2 := blk_cell K5.out 2
  have k3 := blk_cell K5.out 3
  have k4 := blk_cell K5.out 4
  have k5 := blk_cell K5.out 5
  have k6 := blk_cell K5.out 6
  simp at k0 k1 k2 k3 k4 k5 k6
  have kR := blk_cell R5.out
  have fR := blk_free R5.out
  have hP := P5
  have hT := T5
  go_wp2_with fail
  refine bodyPost_ret (v := .agg #[.int .i64 key, .int .i64 hd, .int .i64 0, .int .i64 0, .int .i64 0, .int .i64 0, .int .i64 (steps + 1)]) (by simp [results, Try.results60, go_sem, *]) rfl ⟨rfl, ?_, ?_⟩
  · repeat (refine RowB.other ?_ (by omega))
    exact hP.out
  · repeat (refine Tch.own ?_ (by omega) _ _)
    exact hT.out
set_option maxHeartbeats 8000000 in
theorem l07Step_full (g tb o2 c2 b3 o3 c3 : Nat) (s : Slb) (key steps : Int) (N : Nat) (x : Slt) (w : World) (hr : rightSl s = true) (hk0 : 0 ≤ key) (ht0 : 0 ≤ steps) (ht1 : steps < 1000000) (hG : w.heap[g]? = some (.cells #[.slice (some ⟨tb, o2, none⟩) s.slots.length c2, .slice (some ⟨b3, o3, none⟩) s.heads.length c3] 26)) (P : RowB tb o2 (flat s.slots) w) (Q : RowB b3 o3 s.heads w) (n1 : tb ≠ b3) (n2 : tb ≠ g) (hN : N < s.slots.length) (hx : s.slots.getD N zeroSlt = x) (hq : 1000000 ≤ x.refs) :
    Calls Try.prog 60 #[.pointer (some ⟨g, 0, none⟩), .agg #[.int .i64 key, .int .i64 (N : Int), .int .i64 1, .int .i64 0, .int .i64 0, .int .i64 0, .int .i64 steps]] w fun e w' => e = .returned (.agg #[.int .i64 key, .int .i64 (hdK s key), .int .i64 0, .int .i64 0, .int .i64 0, .int .i64 0, .int .i64 (steps + 1)]) ∧ RowB tb o2 (flat s.slots) w' ∧ Tch tb w w' := by
  obtain ⟨_, m1, m2, m3, m4⟩ := right_leads hr
  have HH := hidS (fun W (h : RowZ (some ⟨b3, o3, none⟩) s.heads W) => l07Head_any tb o2 b3 o3 c2 c3 s key W h hk0 m3 m4)
  generalize hdK s key = hd at HH ⊢
  have hqb : (x.refs == 0) = false := beq_eq_false_iff_ne.2 (by omega)
  have hNN : (0 : Int) ≤ (N : Int) ∧ (N : Int) < (s.slots.length : Int) := by omega
  have hNp : ¬ (N : Int) < 0 := by omega
  have K0 : Hid (((w.alloc (.cells #[.int .i64 key, .int .i64 (N : Int), .int .i64 1, .int .i64 0, .int .i64 0, .int .i64 0, .int .i64 steps] 30)).alloc (.cells #[.int .i64 0, .int .i64 0, .int .i64 0, .int .i64 0, .int .i64 0, .int .i64 0, .int .i64 0] 30)).heap[w.heap.size]? = some (.cells #[.int .i64 key, .int .i64 (N : Int), .int .i64 1, .int .i64 0, .int .i64 0, .int .i64 0, .int .i64 steps] 30)) := by
    show _ = _
    have := blk_alloc (heap_newG w (.cells #[.int .i64 key, .int .i64 (N : Int), .int .i64 1, .int .i64 0, .int .i64 0, .int .i64 0, .int .i64 steps] 30)) (.cells #[.int .i64 0, .int .i64 0, .int .i64 0, .int .i64 0, .int .i64 0, .int .i64 0, .int .i64 0] 30)
    simpa using this
  have R0 : Hid (((w.alloc (.cells #[.int .i64 key, .int .i64 (N : Int), .int .i64 1, .int .i64 0, .int .i64 0, .int .i64 0, .int .i64 steps] 30)).alloc (.cells #[.int .i64 0, .int .i64 0, .int .i64 0, .int .i64 0, .int .i64 0, .int .i64 0, .int .i64 0] 30)).heap[w.heap.size + 1]? = some (.cells #[.int .i64 0, .int .i64 0, .int .i64 0, .int .i64 0, .int .i64 0, .int .i64 0, .int .i64 0] 30)) := by
    show _ = _
    have := heap_newG (w.alloc (.cells #[.int .i64 key, .int .i64 (N : Int), .int .i64 1, .int .i64 0, .int .i64 0, .int .i64 0, .int .i64 steps] 30)) (.cells #[.int .i64 0, .int .i64 0, .int .i64 0, .int .i64 0, .int .i64 0, .int .i64 0, .int .i64 0] 30)
    simpa using this
  have hB0 := ((Below.refl w.heap.size w).alloc (Nat.le_refl _) (.cells #[.int .i64 key, .int .i64 (N : Int), .int .i64 1, .int .i64 0, .int .i64 0, .int .i64 0, .int .i64 steps] 30)).alloc (by simp) (.cells #[.int .i64 0, .int .i64 0, .int .i64 0, .int .i64 0, .int .i64 0, .int .i64 0, .int .i64 0] 30)
  have G0 := hidS (blk_later hG hB0)
  have P0 := hidS (P.later hB0)
  have Q0 := hidS (Q.later hB0)
  have T0 := hidS ((Tch.refl tb w).later hB0)
  have lg := blk_lt hG
  have lb := P.lt
  have lq := Q.lt
  clear hB0 hG P Q
  go_enter Try.func60, Try.ntmps60
  go_upto_region 1 with fail
  generalize (w.alloc (.cells #[.int .i64 key, .int .i64 (N : Int), .int .i64 1, .int .i64 0, .int .i64 0, .int .i64 0, .int .i64 steps] 30)).alloc (.cells #[.int .i64 0, .int .i64 0, .int .i64 0, .int .i64 0, .int .i64 0, .int .i64 0, .int .i64 0] 30) = w0 at K0 R0 G0 P0 Q0 T0 ⊢
  have k0 := blk_cell K0.out 0
  have k1 := blk_cell K0.out 1
  have k2 := blk_cell K0.out 2
  have k3 := blk_cell K0.out 3
  have k4 := blk_cell K0.out 4
  have k5 := blk_cell K0.out 5
  have k6 := blk_cell K0.out 6
  simp at k0 k1 k2 k3 k4 k5 k6
  have fK := blk_free K0.out
  go_upto_region 2 with fail
  clear k0 k1 k2 k3 k4 k5 k6 fK
  have K1 : Hid ((w0.setCell ⟨w.heap.size, 6, none⟩ (.int .i64 (steps + 1))).heap[w.heap.size]? = some (.cells #[.int .i64 key, .int .i64 (N : Int), .int .i64 1, .int .i64 0, .int .i64 0, .int .i64 0, .int .i64 (steps + 1)] 30)) := by
    have := blk_set K0.out 6 (.int .i64 (steps + 1))
    exact this
  have R1 : Hid ((w0.setCell ⟨w.heap.size, 6, none⟩ (.int .i64 (steps + 1))).heap[w.heap.size + 1]? = some (.cells #[.int .i64 0, .int .i64 0, .int .i64 0, .int .i64 0, .int .i64 0, .int .i64 0, .int .i64 0] 30)) := hidS (blk_other (B := w.heap.size) R0.out (by omega) 6 (.int .i64 (steps + 1)))
  have G1 : Hid ((w0.setCell ⟨w.heap.size, 6, none⟩ (.int .i64 (steps + 1))).heap[g]? = some (.cells #[.slice (some ⟨tb, o2, none⟩) s.slots.length c2, .slice (some ⟨b3, o3, none⟩) s.heads.length c3] 26)) := hidS (blk_other (B := w.heap.size) G0.out (by omega) 6 (.int .i64 (steps + 1)))
  have P1 : Hid (RowB tb o2 (flat s.slots) ((w0.setCell ⟨w.heap.size, 6, none⟩ (.int .i64 (steps + 1))))) := hidS (RowB.other (g := w.heap.size) (k := 6) (v := .int .i64 (steps + 1)) P0.out (by omega))
  have Q1 : Hid (RowB b3 o3 s.heads ((w0.setCell ⟨w.heap.size, 6, none⟩ (.int .i64 (steps + 1))))) := hidS (RowB.other (g := w.heap.size) (k := 6) (v := .int .i64 (steps + 1)) Q0.out (by omega))
  have T1 : Hid (Tch tb w ((w0.setCell ⟨w.heap.size, 6, none⟩ (.int .i64 (steps + 1))))) := hidS (Tch.own T0.out (by omega) 6 (.int .i64 (steps + 1)))
  clear T0 K0 R0 G0 P0 Q0
  generalize (w0.setCell ⟨w.heap.size, 6, none⟩ (.int .i64 (steps + 1))) = w1 at K1 R1 G1 P1 Q1 T1 ⊢
  have k0 := blk_cell K1.out 0
  have k1 := blk_cell K1.out 1
  have k2 := blk_cell K1.out 2
  have k3 := blk_cell K1.out 3
  have k4 := blk_cell K1.out 4
  have k5 := blk_cell K1.out 5
  have k6 := blk_cell K1.out 6
  simp at k0 k1 k2 k3 k4 k5 k6
  have g0 := blk_cell G1.out 0
  have g1 := blk_cell G1.out 1
  simp at g0 g1
  go_wp2_with fail
  clear k0 k1 k2 k3 k4 k5 k6 g0 g1
  refine grow_struct 9 _ [.is (.pointer (some ⟨g, 0, none⟩)), .is (.pointer (some ⟨g, 0, none⟩)), .is (.pointer (some ⟨g, 0, none⟩)), .is (.slice (some ⟨tb, o2, none⟩) s.slots.length c2), .is (.pointer (some ⟨w.heap.size, 1, none⟩)), .is (.int .i64 (N : Int)), .is (.pointer (some ⟨tb, o2 + N * 4, none⟩)), .is (.agg #[.int .i64 x.key, .int .i64 x.gen, .int .i64 x.refs, .int .i64 x.next]), .blk w1.heap.size #[.int .i64 0, .int .i64 0, .int .i64 0, .int .i64 0] 45] 8 7 5 41 45 45 #[.int .i64 0, .int .i64 0, .int .i64 0, .int .i64 0] #[.int .i64 x.key, .int .i64 x.gen, .int .i64 x.refs, .int .i64 x.next] rfl rfl rfl (by kernel_rfl) (by kernel_rfl) (by kernel_rfl) rfl rfl rfl rfl (by decide) (by decide) rfl rfl rfl (by first | kernel_rfl | simp [Value.oneCell']) (by kernel_rfl) ?steps7 ?fin7
  case steps7 =>
    refine ⟨?_, ?_, ?_, ?_, ?_, ?_, ?_, ?_, ?_, trivial⟩
    · refine ⟨rfl, fun v W ρ hC kc kf ks ki kd => ?_⟩
      have t0 : ρ (.tmp 0) = .pointer (some ⟨g, 0, none⟩) := ki 0 (by decide)
      simp [execOp, go_sem, kc, t0]
      exact ⟨hC, Below.refl _ _, rfl⟩
    · refine ⟨rfl, fun v W ρ hC kc kf ks ki kd => ?_⟩
      have d0 : v 0 = .pointer (some ⟨g, 0, none⟩) := (kdj kd 0 rfl :)
      have t34 : ρ (.tmp 34) = .pointer (some ⟨g, 0, none⟩) := (ks 0 34 (by decide) rfl).trans d0
      simp [execOp, go_sem, kc, t34]
      exact ⟨hC, Below.refl _ _, rfl⟩
    · refine ⟨rfl, fun v W ρ hC kc kf ks ki kd => ?_⟩
      have d1 : v 1 = .pointer (some ⟨g, 0, none⟩) := (kdj kd 1 rfl :)
      have t35 : ρ (.tmp 35) = .pointer (some ⟨g, 0, none⟩) := (ks 1 35 (by decide) rfl).trans d1
      simp [execOp, go_sem, kc, t35]
      exact ⟨hC, Below.refl _ _, rfl⟩
    · refine ⟨rfl, fun v W ρ hC kc kf ks ki kd => ?_⟩
      have d2 : v 2 = .pointer (some ⟨g, 0, none⟩) := (kdj kd 2 rfl :)
      have t36 : ρ (.tmp 36) = .pointer (some ⟨g, 0, none⟩) := (ks 2 36 (by decide) rfl).trans d2
      have hg := blk_later G1.out hC
      have c0 := blk_cell hg 0
      simp at c0
      simp [execOp, go_sem, kc, t36, c0]
      exact ⟨hC, Below.refl _ _, rfl⟩
    · refine ⟨rfl, fun v W ρ hC kc kf ks ki kd => ?_⟩
      have t3 : ρ (.tmp 3) = .pointer (some ⟨w.heap.size, 0, none⟩) := ki 3 (by decide)
      simp [execOp, go_sem, kc, t3]
      exact ⟨hC, Below.refl _ _, rfl⟩
    · refine ⟨rfl, fun v W ρ hC kc kf ks ki kd => ?_⟩
      have d4 : v 4 = .pointer (some ⟨w.heap.size, 1, none⟩) := (kdj kd 4 rfl :)
      have t38 : ρ (.tmp 38) = .pointer (some ⟨w.heap.size, 1, none⟩) := (ks 4 38 (by decide) rfl).trans d4
      have hg := blk_later K1.out hC
      have c1 := blk_cell hg 1
      simp at c1
      simp [execOp, go_sem, kc, t38, c1]
      exact ⟨hC, Below.refl _ _, rfl⟩
    · refine ⟨rfl, fun v W ρ hC kc kf ks ki kd => ?_⟩
      have d3 : v 3 = .slice (some ⟨tb, o2, none⟩) s.slots.length c2 := (kdj kd 3 rfl :)
      have t37 : ρ (.tmp 37) = .slice (some ⟨tb, o2, none⟩) s.slots.length c2 := (ks 3 37 (by decide) rfl).trans d3
      have d5 : v 5 = .int .i64 (N : Int) := (kdj kd 5 rfl :)
      have t39 : ρ (.tmp 39) = .int .i64 (N : Int) := (ks 5 39 (by decide) rfl).trans d5
      simp [execOp, go_sem, kc, t37, t39, hNN]
      exact ⟨hC, Below.refl _ _, rfl⟩
    · refine ⟨rfl, fun v W ρ hC kc kf ks ki kd => ?_⟩
      have d6 : v 6 = .pointer (some ⟨tb, o2 + N * 4, none⟩) := (kdj kd 6 rfl :)
      have t40 : ρ (.tmp 40) = .pointer (some ⟨tb, o2 + N * 4, none⟩) := (ks 6 40 (by decide) rfl).trans d6
      obtain ⟨b', o', eS, lS, d0, d1, d2, d3⟩ := (P1.out.later hC).read.slot hN
      injection eS with eS; injection eS with eS1 eS2
      subst eS1 eS2
      rw [hx] at d0 d1 d2 d3
      simp [execOp, go_sem, kc, t40, d0, d1, d2, d3]
      exact ⟨hC, Below.refl _ _, rfl⟩
    · refine ⟨rfl, fun v W ρ hC kc kf ks ki kd => ?_⟩
      simp [execOp, go_sem]
      exact ⟨hC.alloc hC.size _, (Below.refl _ _).alloc (Nat.le_refl _) _, W.heap.size, rfl, hC.size, heap_newG _ _⟩
  intro v7 w2 gx hb hvB hn hBk hall
  simp [upto, Act.put]
  rw [hvB]
  clear hall hvB
  have hX := hidS hBk
  clear hBk
  have lT := T1.out.size
  have lR := blk_lt R1.out
  have K2 := hidS (blk_later K1.out hb)
  have R2 := hidS (blk_later R1.out hb)
  have G2 := hidS (blk_later G1.out hb)
  have P2 := hidS (P1.out.later hb)
  have Q2 := hidS (Q1.out.later hb)
  have T2 := hidS (T1.out.later hb)
  clear T1 hb K1 R1 G1 P1 Q1
  have X2 := hX
  clear hX
  have k0 := blk_cell K2.out 0
  have k1 := blk_cell K2.out 1
  have k2 := blk_cell K2.out 2
  have k3 := blk_cell K2.out 3
  have k4 := blk_cell K2.out 4
  have k5 := blk_cell K2.out 5
  have k6 := blk_cell K2.out 6
  simp at k0 k1 k2 k3 k4 k5 k6
  have fK := blk_free K2.out
  have x0 := blk_cell X2.out 0
  have x1 := blk_cell X2.out 1
  have x2 := blk_cell X2.out 2
  have x3 := blk_cell X2.out 3
  simp at x0 x1 x2 x3
  go_upto_region 23 with fail
  clear k0 k1 k2 k3 k4 k5 k6 fK x0 x1 x2 x3
  have K3 : Hid ((w2.setCell ⟨w.heap.size, 2, none⟩ (.int .i64 0)).heap[w.heap.size]? = some (.cells #[.int .i64 key, .int .i64 (N : Int), .int .i64 0, .int .i64 0, .int .i64 0, .int .i64 0, .int .i64 (steps + 1)] 30)) := by
    have := blk_set K2.out 2 (.int .i64 0)
    exact this
  have R3 : Hid ((w2.setCell ⟨w.heap.size, 2, none⟩ (.int .i64 0)).heap[w.heap.size + 1]? = some (.cells #[.int .i64 0, .int .i64 0, .int .i64 0, .int .i64 0, .int .i64 0, .int .i64 0, .int .i64 0] 30)) := hidS (blk_other (B := w.heap.size) R2.out (by omega) 2 (.int .i64 0))
  have G3 : Hid ((w2.setCell ⟨w.heap.size, 2, none⟩ (.int .i64 0)).heap[g]? = some (.cells #[.slice (some ⟨tb, o2, none⟩) s.slots.length c2, .slice (some ⟨b3, o3, none⟩) s.heads.length c3] 26)) := hidS (blk_other (B := w.heap.size) G2.out (by omega) 2 (.int .i64 0))
  have P3 : Hid (RowB tb o2 (flat s.slots) ((w2.setCell ⟨w.heap.size, 2, none⟩ (.int .i64 0)))) := hidS (RowB.other (g := w.heap.size) (k := 2) (v := .int .i64 0) P2.out (by omega))
  have Q3 : Hid (RowB b3 o3 s.heads ((w2.setCell ⟨w.heap.size, 2, none⟩ (.int .i64 0)))) := hidS (RowB.other (g := w.heap.size) (k := 2) (v := .int .i64 0) Q2.out (by omega))
  have X3 : Hid ((w2.setCell ⟨w.heap.size, 2, none⟩ (.int .i64 0)).heap[gx]? = some (.cells #[.int .i64 x.key, .int .i64 x.gen, .int .i64 x.refs, .int .i64 x.next] 45)) := hidS (blk_other (B := w.heap.size) X2.out (by omega) 2 (.int .i64 0))
  have T3 : Hid (Tch tb w ((w2.setCell ⟨w.heap.size, 2, none⟩ (.int .i64 0)))) := hidS (Tch.own T2.out (by omega) 2 (.int .i64 0))
  clear T2 K2 R2 G2 P2 Q2 X2
  generalize (w2.setCell ⟨w.heap.size, 2, none⟩ (.int .i64 0)) = w3 at K3 R3 G3 P3 Q3 X3 T3 ⊢
  go_wp2_with fail
  refine grow_cell 7 _ [isP (.pointer (some ⟨g, 0, none⟩)), isP (.pointer (some ⟨g, 0, none⟩)), isP (.agg #[.slice (some ⟨tb, o2, none⟩) s.slots.length c2, .slice (some ⟨b3, o3, none⟩) s.heads.length c3]), isP (.pointer (some ⟨w.heap.size, 0, none⟩)), isP (.int .i64 key), isP (.int .i64 hd), isP (.pointer (some ⟨w.heap.size, 1, none⟩))] 6 5 103 102 2 30 w.heap.size 1 hd #[.int .i64 key, .int .i64 (N : Int), .int .i64 0, .int .i64 0, .int .i64 0, .int .i64 0, .int .i64 (steps + 1)] rfl rfl rfl (by kernel_rfl) (by kernel_rfl) (by kernel_rfl) ⟨(fun v W W' h _ => h), (fun v W W' h _ => h), (fun v W W' h _ => h), (fun v W W' h _ => h), (fun v W W' h _ => h), (fun v W W' h _ => h), (fun v W W' h _ => h), trivial⟩ (by decide) (by decide) (by decide) rfl rfl rfl rfl K3.out (by simp) (fun v W h => h) (fun v W h => h) (by kernel_rfl) ?steps23 ?fin23
  case steps23 =>
    refine ⟨?_, ?_, ?_, ?_, ?_, ?_, ?_, trivial⟩
    · refine ⟨rfl, fun v W ρ hC kc kf ks ki kd => ?_⟩
      have t0 : ρ (.tmp 0) = .pointer (some ⟨g, 0, none⟩) := ki 0 (by decide)
      simp [execOp, go_sem, kc, t0]
      simp only [RanS]
      first | exact ⟨hC, Below.refl _ _, rfl⟩ | exact ⟨hC, Below.refl _ _, rfl, by first | exact fun _ _ => trivial | exact fun h => absurd h (by decide), by first | exact fun _ _ => trivial | exact fun h => absurd h (by decide)⟩
    · refine ⟨rfl, fun v W ρ hC kc kf ks ki kd => ?_⟩
      have d0 : v 0 = .pointer (some ⟨g, 0, none⟩) := (kdj kd 0 rfl :)
      have t97 : ρ (.tmp 97) = .pointer (some ⟨g, 0, none⟩) := (ks 0 97 (by decide) rfl).trans d0
      simp [execOp, go_sem, kc, t97]
      simp only [RanS]
      first | exact ⟨hC, Below.refl _ _, rfl⟩ | exact ⟨hC, Below.refl _ _, rfl, by first | exact fun _ _ => trivial | exact fun h => absurd h (by decide), by first | exact fun _ _ => trivial | exact fun h => absurd h (by decide)⟩
    · refine ⟨rfl, fun v W ρ hC kc kf ks ki kd => ?_⟩
      have d1 : v 1 = .pointer (some ⟨g, 0, none⟩) := (kdj kd 1 rfl :)
      have t98 : ρ (.tmp 98) = .pointer (some ⟨g, 0, none⟩) := (ks 1 98 (by decide) rfl).trans d1
      have hg := blk_later G3.out hC
      have c0 := blk_cell hg 0
      have c1 := blk_cell hg 1
      simp at c0 c1
      simp [execOp, go_sem, kc, t98, c0, c1]
      simp only [RanS]
      first | exact ⟨hC, Below.refl _ _, rfl⟩ | exact ⟨hC, Below.refl _ _, rfl, by first | exact fun _ _ => trivial | exact fun h => absurd h (by decide), by first | exact fun _ _ => trivial | exact fun h => absurd h (by decide)⟩
    · refine ⟨rfl, fun v W ρ hC kc kf ks ki kd => ?_⟩
      have t3 : ρ (.tmp 3) = .pointer (some ⟨w.heap.size, 0, none⟩) := ki 3 (by decide)
      simp [execOp, go_sem, kc, t3]
      simp only [RanS]
      first | exact ⟨hC, Below.refl _ _, rfl⟩ | exact ⟨hC, Below.refl _ _, rfl, by first | exact fun _ _ => trivial | exact fun h => absurd h (by decide), by first | exact fun _ _ => trivial | exact fun h => absurd h (by decide)⟩
    · refine ⟨rfl, fun v W ρ hC kc kf ks ki kd => ?_⟩
      have d3 : v 3 = .pointer (some ⟨w.heap.size, 0, none⟩) := (kdj kd 3 rfl :)
      have t100 : ρ (.tmp 100) = .pointer (some ⟨w.heap.size, 0, none⟩) := (ks 3 100 (by decide) rfl).trans d3
      have hg := blk_later K3.out hC
      have c0 := blk_cell hg 0
      simp at c0
      simp [execOp, go_sem, kc, t100, c0]
      simp only [RanS]
      first | exact ⟨hC, Below.refl _ _, rfl⟩ | exact ⟨hC, Below.refl _ _, rfl, by first | exact fun _ _ => trivial | exact fun h => absurd h (by decide), by first | exact fun _ _ => trivial | exact fun h => absurd h (by decide)⟩
    · refine ⟨rfl, fun v W ρ hC kc kf ks ki kd => ?_⟩
      have d2 : v 2 = .agg #[.slice (some ⟨tb, o2, none⟩) s.slots.length c2, .slice (some ⟨b3, o3, none⟩) s.heads.length c3] := (kdj kd 2 rfl :)
      have t99 : ρ (.tmp 99) = .agg #[.slice (some ⟨tb, o2, none⟩) s.slots.length c2, .slice (some ⟨b3, o3, none⟩) s.heads.length c3] := (ks 2 99 (by decide) rfl).trans d2
      have d4 : v 4 = .int .i64 key := (kdj kd 4 rfl :)
      have t101 : ρ (.tmp 101) = .int .i64 key := (ks 4 101 (by decide) rfl).trans d4
      simp [execOp, go_sem, t99, t101, kf]
      simp only [RanS]
      first | exact Calls.mono (HH.out W (Q3.out.later hC).read) (fun e x h => ⟨_, h.1, hC.trans (h.2.mono hC.size), h.2, rfl⟩) | exact Calls.mono (HH.out W (Q3.out.later hC).read) (fun e x h => ⟨_, h.1, hC.trans (h.2.mono hC.size), h.2, rfl, by first | exact fun _ _ => trivial | exact fun h => absurd h (by decide), by first | exact fun _ _ => trivial | exact fun h => absurd h (by decide)⟩)
    · refine ⟨rfl, fun v W ρ hC kc kf ks ki kd => ?_⟩
      have t3 : ρ (.tmp 3) = .pointer (some ⟨w.heap.size, 0, none⟩) := ki 3 (by decide)
      simp [execOp, go_sem, kc, t3]
      simp only [RanS]
      first | exact ⟨hC, Below.refl _ _, rfl⟩ | exact ⟨hC, Below.refl _ _, rfl, by first | exact fun _ _ => trivial | exact fun h => absurd h (by decide), by first | exact fun _ _ => trivial | exact fun h => absurd h (by decide)⟩
  intro v23 w4 hb
  simp [upto, Act.put]
  have K4 := hidS (blk_later K3.out hb)
  have R4 := hidS (blk_later R3.out hb)
  have G4 := hidS (blk_later G3.out hb)
  have P4 := hidS (P3.out.later hb)
  have Q4 := hidS (Q3.out.later hb)
  have X4 := hidS (blk_later X3.out hb)
  have T4 := hidS (T3.out.later hb)
  clear T3 hb K3 R3 G3 P3 Q3 X3
  have K5 : Hid ((w4.setCell ⟨w.heap.size, 1, none⟩ (.int .i64 hd)).heap[w.heap.size]? = some (.cells #[.int .i64 key, .int .i64 hd, .int .i64 0, .int .i64 0, .int .i64 0, .int .i64 0, .int .i64 (steps + 1)] 30)) := by
    have := blk_set K4.out 1 (.int .i64 hd)
    exact this
  have R5 : Hid ((w4.setCell ⟨w.heap.size, 1, none⟩ (.int .i64 hd)).heap[w.heap.size + 1]? = some (.cells #[.int .i64 0, .int .i64 0, .int .i64 0, .int .i64 0, .int .i64 0, .int .i64 0, .int .i64 0] 30)) := hidS (blk_other (B := w.heap.size) R4.out (by omega) 1 (.int .i64 hd))
  have G5 : Hid ((w4.setCell ⟨w.heap.size, 1, none⟩ (.int .i64 hd)).heap[g]? = some (.cells #[.slice (some ⟨tb, o2, none⟩) s.slots.length c2, .slice (some ⟨b3, o3, none⟩) s.heads.length c3] 26)) := hidS (blk_other (B := w.heap.size) G4.out (by omega) 1 (.int .i64 hd))
  have P5 : Hid (RowB tb o2 (flat s.slots) ((w4.setCell ⟨w.heap.size, 1, none⟩ (.int .i64 hd)))) := hidS (RowB.other (g := w.heap.size) (k := 1) (v := .int .i64 hd) P4.out (by omega))
  have Q5 : Hid (RowB b3 o3 s.heads ((w4.setCell ⟨w.heap.size, 1, none⟩ (.int .i64 hd)))) := hidS (RowB.other (g := w.heap.size) (k := 1) (v := .int .i64 hd) Q4.out (by omega))
  have X5 : Hid ((w4.setCell ⟨w.heap.size, 1, none⟩ (.int .i64 hd)).heap[gx]? = some (.cells #[.int .i64 x.key, .int .i64 x.gen, .int .i64 x.refs, .int .i64 x.next] 45)) := hidS (blk_other (B := w.heap.size) X4.out (by omega) 1 (.int .i64 hd))
  have T5 : Hid (Tch tb w ((w4.setCell ⟨w.heap.size, 1, none⟩ (.int .i64 hd)))) := hidS (Tch.own T4.out (by omega) 1 (.int .i64 hd))
  clear T4 K4 R4 G4 P4 Q4 X4
  generalize (w4.setCell ⟨w.heap.size, 1, none⟩ (.int .i64 hd)) = w5 at K5 R5 G5 P5 Q5 X5 T5 ⊢
  have k0 := blk_cell K5.out 0
  have k1 := blk_cell K5.out 1
  have k2 := blk_cell K5.out 2
  have k3 := blk_cell K5.out 3
  have k4 := blk_cell K5.out 4
  have k5 := blk_cell K5.out 5
  have k6 := blk_cell K5.out 6
  simp at k0 k1 k2 k3 k4 k5 k6
  have kR := blk_cell R5.out
  have fR := blk_free R5.out
  have hP := P5
  have hT := T5
  go_wp2_with fail
  refine bodyPost_ret (v := .agg #[.int .i64 key, .int .i64 hd, .int .i64 0, .int .i64 0, .int .i64 0, .int .i64 0, .int .i64 (steps + 1)]) (by simp [results, Try.results60, go_sem, *]) rfl ⟨rfl, ?_, ?_⟩
  · repeat (refine RowB.other ?_ (by omega))
    exact hP.out
  · repeat (refine Tch.own ?_ (by omega) _ _)
    exact hT.out
set_option maxHeartbeats 8000000 in
theorem l07Step_get (g tb o2 c2 b3 o3 c3 : Nat) (s : Slb) (key steps : Int) (N : Nat) (x : Slt) (w : World) (hr : rightSl s = true) (hk0 : 0 ≤ key) (ht0 : 0 ≤ steps) (ht1 : steps < 1000000) (hG : w.heap[g]? = some (.cells #[.slice (some ⟨tb, o2, none⟩) s.slots.length c2, .slice (some ⟨b3, o3, none⟩) s.heads.length c3] 26)) (P : RowB tb o2 (flat s.slots) w) (Q : RowB b3 o3 s.heads w) (n1 : tb ≠ b3) (n2 : tb ≠ g) (hN : N < s.slots.length) (hx : s.slots.getD N zeroSlt = x) (hq : ¬ x.refs = 0) (hq1 : ¬ 1000000 ≤ x.refs) :
    Calls Try.prog 60 #[.pointer (some ⟨g, 0, none⟩), .agg #[.int .i64 key, .int .i64 (N : Int), .int .i64 1, .int .i64 0, .int .i64 0, .int .i64 0, .int .i64 steps]] w fun e w' => e = .returned (.agg #[.int .i64 key, .int .i64 (N : Int), .int .i64 2, .int .i64 0, .int .i64 0, .int .i64 0, .int .i64 (steps + 1)]) ∧ RowB tb o2 (flat (refS s (N : Int) (x.refs + 1)).slots) w' ∧ Tch tb w w' := by
  obtain ⟨_, m1, m2, m3, m4⟩ := right_leads hr
  have EX : Hid (slotN s (N : Int) = x) := by show _ = _; rw [slot_nat]; exact hx
  have hx0 := (refs_nat hr hN).1
  have hx1 := (refs_nat hr hN).2
  rw [hx] at hx0 hx1
  have hqb : (x.refs == 0) = false := beq_eq_false_iff_ne.2 hq
  have hNN : (0 : Int) ≤ (N : Int) ∧ (N : Int) < (s.slots.length : Int) := by omega
  have hNp : ¬ (N : Int) < 0 := by omega
  have K0 : Hid (((w.alloc (.cells #[.int .i64 key, .int .i64 (N : Int), .int .i64 1, .int .i64 0, .int .i64 0, .int .i64 0, .int .i64 steps] 30)).alloc (.cells #[.int .i64 0, .int .i64 0, .int .i64 0, .int .i64 0, .int .i64 0, .int .i64 0, .int .i64 0] 30)).heap[w.heap.size]? = some (.cells #[.int .i64 key, .int .i64 (N : Int), .int .i64 1, .int .i64 0, .int .i64 0, .int .i64 0, .int .i64 steps] 30)) := by
    show _ = _
    have := blk_alloc (heap_newG w (.cells #[.int .i64 key, .int .i64 (N : Int), .int .i64 1, .int .i64 0, .int .i64 0, .int .i64 0, .int .i64 steps] 30)) (.cells #[.int .i64 0, .int .i64 0, .int .i64 0, .int .i64 0, .int .i64 0, .int .i64 0, .int .i64 0] 30)
    simpa using this
  have R0 : Hid (((w.alloc (.cells #[.int .i64 key, .int .i64 (N : Int), .int .i64 1, .int .i64 0, .int .i64 0, .int .i64 0, .int .i64 steps] 30)).alloc (.cells #[.int .i64 0, .int .i64 0, .int .i64 0, .int .i64 0, .int .i64 0, .int .i64 0, .int .i64 0] 30)).heap[w.heap.size + 1]? = some (.cells #[.int .i64 0, .int .i64 0, .int .i64 0, .int .i64 0, .int .i64 0, .int .i64 0, .int .i64 0] 30)) := by
    show _ = _
    have := heap_newG (w.alloc (.cells #[.int .i64 key, .int .i64 (N : Int), .int .i64 1, .int .i64 0, .int .i64 0, .int .i64 0, .int .i64 steps] 30)) (.cells #[.int .i64 0, .int .i64 0, .int .i64 0, .int .i64 0, .int .i64 0, .int .i64 0, .int .i64 0] 30)
    simpa using this
  have hB0 := ((Below.refl w.heap.size w).alloc (Nat.le_refl _) (.cells #[.int .i64 key, .int .i64 (N : Int), .int .i64 1, .int .i64 0, .int .i64 0, .int .i64 0, .int .i64 steps] 30)).alloc (by simp) (.cells #[.int .i64 0, .int .i64 0, .int .i64 0, .int .i64 0, .int .i64 0, .int .i64 0, .int .i64 0] 30)
  have G0 := hidS (blk_later hG hB0)
  have P0 := hidS (P.later hB0)
  have Q0 := hidS (Q.later hB0)
  have T0 := hidS ((Tch.refl tb w).later hB0)
  have lg := blk_lt hG
  have lb := P.lt
  have lq := Q.lt
  clear hB0 hG P Q
  go_enter Try.func60, Try.ntmps60
  go_upto_region 1 with fail
  generalize (w.alloc (.cells #[.int .i64 key, .int .i64 (N : Int), .int .i64 1, .int .i64 0, .int .i64 0, .int .i64 0, .int .i64 steps] 30)).alloc (.cells #[.int .i64 0, .int .i64 0, .int .i64 0, .int .i64 0, .int .i64 0, .int .i64 0, .int .i64 0] 30) = w0 at K0 R0 G0 P0 Q0 T0 ⊢
  have k0 := blk_cell K0.out 0
  have k1 := blk_cell K0.out 1
  have k2 := blk_cell K0.out 2
  have k3 := blk_cell K0.out 3
  have k4 := blk_cell K0.out 4
  have k5 := blk_cell K0.out 5
  have k6 := blk_cell K0.out 6
  simp at k0 k1 k2 k3 k4 k5 k6
  have fK := blk_free K0.out
  go_upto_region 2 with fail
  clear k0 k1 k2 k3 k4 k5 k6 fK
  have K1 : Hid ((w0.setCell ⟨w.heap.size, 6, none⟩ (.int .i64 (steps + 1))).heap[w.heap.size]? = some (.cells #[.int .i64 key, .int .i64 (N : Int), .int .i64 1, .int .i64 0, .int .i64 0, .int .i64 0, .int .i64 (steps + 1)] 30)) := by
    have := blk_set K0.out 6 (.int .i64 (steps + 1))
    exact this
  have R1 : Hid ((w0.setCell ⟨w.heap.size, 6, none⟩ (.int .i64 (steps + 1))).heap[w.heap.size + 1]? = some (.cells #[.int .i64 0, .int .i64 0, .int .i64 0, .int .i64 0, .int .i64 0, .int .i64 0, .int .i64 0] 30)) := hidS (blk_other (B := w.heap.size) R0.out (by omega) 6 (.int .i64 (steps + 1)))
  have G1 : Hid ((w0.setCell ⟨w.heap.size, 6, none⟩ (.int .i64 (steps + 1))).heap[g]? = some (.cells #[.slice (some ⟨tb, o2, none⟩) s.slots.length c2, .slice (some ⟨b3, o3, none⟩) s.heads.length c3] 26)) := hidS (blk_other (B := w.heap.size) G0.out (by omega) 6 (.int .i64 (steps + 1)))
  have P1 : Hid (RowB tb o2 (flat s.slots) ((w0.setCell ⟨w.heap.size, 6, none⟩ (.int .i64 (steps + 1))))) := hidS (RowB.other (g := w.heap.size) (k := 6) (v := .int .i64 (steps + 1)) P0.out (by omega))
  have Q1 : Hid (RowB b3 o3 s.heads ((w0.setCell ⟨w.heap.size, 6, none⟩ (.int .i64 (steps + 1))))) := hidS (RowB.other (g := w.heap.size) (k := 6) (v := .int .i64 (steps + 1)) Q0.out (by omega))
  have T1 : Hid (Tch tb w ((w0.setCell ⟨w.heap.size, 6, none⟩ (.int .i64 (steps + 1))))) := hidS (Tch.own T0.out (by omega) 6 (.int .i64 (steps + 1)))
  clear T0 K0 R0 G0 P0 Q0
  generalize (w0.setCell ⟨w.heap.size, 6, none⟩ (.int .i64 (steps + 1))) = w1 at K1 R1 G1 P1 Q1 T1 ⊢
  have k0 := blk_cell K1.out 0
  have k1 := blk_cell K1.out 1
  have k2 := blk_cell K1.out 2
  have k3 := blk_cell K1.out 3
  have k4 := blk_cell K1.out 4
  have k5 := blk_cell K1.out 5
  have k6 := blk_cell K1.out 6
  simp at k0 k1 k2 k3 k4 k5 k6
  have g0 := blk_cell G1.out 0
  have g1 := blk_cell G1.out 1
  simp at g0 g1
  go_wp2_with fail
  clear k0 k1 k2 k3 k4 k5 k6 g0 g1
  refine grow_struct 9 _ [.is (.pointer (some ⟨g, 0, none⟩)), .is (.pointer (some ⟨g, 0, none⟩)), .is (.pointer (some ⟨g, 0, none⟩)), .is (.slice (some ⟨tb, o2, none⟩) s.slots.length c2), .is (.pointer (some ⟨w.heap.size, 1, none⟩)), .is (.int .i64 (N : Int)), .is (.pointer (some ⟨tb, o2 + N * 4, none⟩)), .is (.agg #[.int .i64 x.key, .int .i64 x.gen, .int .i64 x.refs, .int .i64 x.next]), .blk w1.heap.size #[.int .i64 0, .int .i64 0, .int .i64 0, .int .i64 0] 45] 8 7 5 41 45 45 #[.int .i64 0, .int .i64 0, .int .i64 0, .int .i64 0] #[.int .i64 x.key, .int .i64 x.gen, .int .i64 x.refs, .int .i64 x.next] rfl rfl rfl (by kernel_rfl) (by kernel_rfl) (by kernel_rfl) rfl rfl rfl rfl (by decide) (by decide) rfl rfl rfl (by first | kernel_rfl | simp [Value.oneCell']) (by kernel_rfl) ?steps7 ?fin7
  case steps7 =>
    refine ⟨?_, ?_, ?_, ?_, ?_, ?_, ?_, ?_, ?_, trivial⟩
    · refine ⟨rfl, fun v W ρ hC kc kf ks ki kd => ?_⟩
      have t0 : ρ (.tmp 0) = .pointer (some ⟨g, 0, none⟩) := ki 0 (by decide)
      simp [execOp, go_sem, kc, t0]
      exact ⟨hC, Below.refl _ _, rfl⟩
    · refine ⟨rfl, fun v W ρ hC kc kf ks ki kd => ?_⟩
      have d0 : v 0 = .pointer (some ⟨g, 0, none⟩) := (kdj kd 0 rfl :)
      have t34 : ρ (.tmp 34) = .pointer (some ⟨g, 0, none⟩) := (ks 0 34 (by decide) rfl).trans d0
      simp [execOp, go_sem, kc, t34]
      exact ⟨hC, Below.refl _ _, rfl⟩
    · refine ⟨rfl, fun v W ρ hC kc kf ks ki kd => ?_⟩
      have d1 : v 1 = .pointer (some ⟨g, 0, none⟩) := (kdj kd 1 rfl :)
      have t35 : ρ (.tmp 35) = .pointer (some ⟨g, 0, none⟩) := (ks 1 35 (by decide) rfl).trans d1
      simp [execOp, go_sem, kc, t35]
      exact ⟨hC, Below.refl _ _, rfl⟩
    · refine ⟨rfl, fun v W ρ hC kc kf ks ki kd => ?_⟩
      have d2 : v 2 = .pointer (some ⟨g, 0, none⟩) := (kdj kd 2 rfl :)
      have t36 : ρ (.tmp 36) = .pointer (some ⟨g, 0, none⟩) := (ks 2 36 (by decide) rfl).trans d2
      have hg := blk_later G1.out hC
      have c0 := blk_cell hg 0
      simp at c0
      simp [execOp, go_sem, kc, t36, c0]
      exact ⟨hC, Below.refl _ _, rfl⟩
    · refine ⟨rfl, fun v W ρ hC kc kf ks ki kd => ?_⟩
      have t3 : ρ (.tmp 3) = .pointer (some ⟨w.heap.size, 0, none⟩) := ki 3 (by decide)
      simp [execOp, go_sem, kc, t3]
      exact ⟨hC, Below.refl _ _, rfl⟩
    · refine ⟨rfl, fun v W ρ hC kc kf ks ki kd => ?_⟩
      have d4 : v 4 = .pointer (some ⟨w.heap.size, 1, none⟩) := (kdj kd 4 rfl :)
      have t38 : ρ (.tmp 38) = .pointer (some ⟨w.heap.size, 1, none⟩) := (ks 4 38 (by decide) rfl).trans d4
      have hg := blk_later K1.out hC
      have c1 := blk_cell hg 1
      simp at c1
      simp [execOp, go_sem, kc, t38, c1]
      exact ⟨hC, Below.refl _ _, rfl⟩
    · refine ⟨rfl, fun v W ρ hC kc kf ks ki kd => ?_⟩
      have d3 : v 3 = .slice (some ⟨tb, o2, none⟩) s.slots.length c2 := (kdj kd 3 rfl :)
      have t37 : ρ (.tmp 37) = .slice (some ⟨tb, o2, none⟩) s.slots.length c2 := (ks 3 37 (by decide) rfl).trans d3
      have d5 : v 5 = .int .i64 (N : Int) := (kdj kd 5 rfl :)
      have t39 : ρ (.tmp 39) = .int .i64 (N : Int) := (ks 5 39 (by decide) rfl).trans d5
      simp [execOp, go_sem, kc, t37, t39, hNN]
      exact ⟨hC, Below.refl _ _, rfl⟩
    · refine ⟨rfl, fun v W ρ hC kc kf ks ki kd => ?_⟩
      have d6 : v 6 = .pointer (some ⟨tb, o2 + N * 4, none⟩) := (kdj kd 6 rfl :)
      have t40 : ρ (.tmp 40) = .pointer (some ⟨tb, o2 + N * 4, none⟩) := (ks 6 40 (by decide) rfl).trans d6
      obtain ⟨b', o', eS, lS, d0, d1, d2, d3⟩ := (P1.out.later hC).read.slot hN
      injection eS with eS; injection eS with eS1 eS2
      subst eS1 eS2
      rw [hx] at d0 d1 d2 d3
      simp [execOp, go_sem, kc, t40, d0, d1, d2, d3]
      exact ⟨hC, Below.refl _ _, rfl⟩
    · refine ⟨rfl, fun v W ρ hC kc kf ks ki kd => ?_⟩
      simp [execOp, go_sem]
      exact ⟨hC.alloc hC.size _, (Below.refl _ _).alloc (Nat.le_refl _) _, W.heap.size, rfl, hC.size, heap_newG _ _⟩
  intro v7 w2 gx hb hvB hn hBk hall
  simp [upto, Act.put]
  rw [hvB]
  clear hall hvB
  have hX := hidS hBk
  clear hBk
  have lT := T1.out.size
  have lR := blk_lt R1.out
  have K2 := hidS (blk_later K1.out hb)
  have R2 := hidS (blk_later R1.out hb)
  have G2 := hidS (blk_later G1.out hb)
  have P2 := hidS (P1.out.later hb)
  have Q2 := hidS (Q1.out.later hb)
  have T2 := hidS (T1.out.later hb)
  clear T1 hb K1 R1 G1 P1 Q1
  have X2 := hX
  clear hX
  have k0 := blk_cell K2.out 0
  have k1 := blk_cell K2.out 1
  have k2 := blk_cell K2.out 2
  have k3 := blk_cell K2.out 3
  have k4 := blk_cell K2.out 4
  have k5 := blk_cell K2.out 5
  have k6 := blk_cell K2.out 6
  simp at k0 k1 k2 k3 k4 k5 k6
  have g0 := blk_cell G2.out 0
  have g1 := blk_cell G2.out 1
  simp at g0 g1
  have x0 := blk_cell X2.out 0
  have x1 := blk_cell X2.out 1
  have x2 := blk_cell X2.out 2
  have x3 := blk_cell X2.out 3
  simp at x0 x1 x2 x3
  have f2 := (rowB_cells P2.out (4 * N + 2) (by rw [flat_len]; omega)).2
  rw [show o2 + (4 * N + 2) = o2 + N * 4 + 2 by omega] at f2
  obtain ⟨b', o', eS, lS, d0, d1, d2, d3⟩ := P2.out.read.slot hN
  injection eS with eS; injection eS with eS1 eS2
  subst eS1 eS2
  rw [hx] at d2
  go_wp2_with fail
  go_region
  clear k0 k1 k2 k3 k4 k5 k6 g0 g1 x0 x1 x2 x3 f2 lS d0 d1 d2 d3
  have K3 : Hid (((w2.setCell ⟨tb, o2 + N * 4 + 2, none⟩ (.int .i64 (x.refs + 1))).drew).heap[w.heap.size]? = some (.cells #[.int .i64 key, .int .i64 (N : Int), .int .i64 1, .int .i64 0, .int .i64 0, .int .i64 0, .int .i64 (steps + 1)] 30)) := hidS (blk_other (B := tb) K2.out (by omega) (o2 + N * 4 + 2) (.int .i64 (x.refs + 1)))
  have R3 : Hid (((w2.setCell ⟨tb, o2 + N * 4 + 2, none⟩ (.int .i64 (x.refs + 1))).drew).heap[w.heap.size + 1]? = some (.cells #[.int .i64 0, .int .i64 0, .int .i64 0, .int .i64 0, .int .i64 0, .int .i64 0, .int .i64 0] 30)) := hidS (blk_other (B := tb) R2.out (by omega) (o2 + N * 4 + 2) (.int .i64 (x.refs + 1)))
  have G3 : Hid (((w2.setCell ⟨tb, o2 + N * 4 + 2, none⟩ (.int .i64 (x.refs + 1))).drew).heap[g]? = some (.cells #[.slice (some ⟨tb, o2, none⟩) s.slots.length c2, .slice (some ⟨b3, o3, none⟩) s.heads.length c3] 26)) := hidS (blk_other (B := tb) G2.out (by omega) (o2 + N * 4 + 2) (.int .i64 (x.refs + 1)))
  have P3 : Hid (RowB tb o2 (flat (refS s (N : Int) (x.refs + 1)).slots) ((w2.setCell ⟨tb, o2 + N * 4 + 2, none⟩ (.int .i64 (x.refs + 1))).drew)) := by
    have h := P2.out.set (4 * N + 2) (x.refs + 1) (by rw [flat_len]; omega)
    rw [flat_refs _ _ _ hN, hx, show o2 + (4 * N + 2) = o2 + N * 4 + 2 by omega] at h
    have e : (refS s (N : Int) (x.refs + 1)).slots = s.slots.set N { x with refs := x.refs + 1 } := by unfold refS; rw [EX.out]; rfl
    show RowB _ _ _ _
    rw [e]
    exact h
  have Q3 : Hid (RowB b3 o3 s.heads ((w2.setCell ⟨tb, o2 + N * 4 + 2, none⟩ (.int .i64 (x.refs + 1))).drew)) := hidS (RowB.other (g := tb) (k := o2 + N * 4 + 2) (v := .int .i64 (x.refs + 1)) Q2.out (by omega))
  have X3 : Hid (((w2.setCell ⟨tb, o2 + N * 4 + 2, none⟩ (.int .i64 (x.refs + 1))).drew).heap[gx]? = some (.cells #[.int .i64 x.key, .int .i64 x.gen, .int .i64 x.refs, .int .i64 x.next] 45)) := hidS (blk_other (B := tb) X2.out (by omega) (o2 + N * 4 + 2) (.int .i64 (x.refs + 1)))
  have T3 : Hid (Tch tb w ((w2.setCell ⟨tb, o2 + N * 4 + 2, none⟩ (.int .i64 (x.refs + 1))).drew)) := hidS (Tch.set T2.out (o2 + N * 4 + 2) (.int .i64 (x.refs + 1))).drew
  clear T2 K2 R2 G2 P2 Q2 X2
  generalize (w2.setCell ⟨tb, o2 + N * 4 + 2, none⟩ (.int .i64 (x.refs + 1))).drew = w3 at K3 R3 G3 P3 Q3 X3 T3 ⊢
  have k0 := blk_cell K3.out 0
  have k1 := blk_cell K3.out 1
  have k2 := blk_cell K3.out 2
  have k3 := blk_cell K3.out 3
  have k4 := blk_cell K3.out 4
  have k5 := blk_cell K3.out 5
  have k6 := blk_cell K3.out 6
  simp at k0 k1 k2 k3 k4 k5 k6
  have fK := blk_free K3.out
  have x0 := blk_cell X3.out 0
  have x1 := blk_cell X3.out 1
  have x2 := blk_cell X3.out 2
  have x3 := blk_cell X3.out 3
  simp at x0 x1 x2 x3
  go_upto_region 26 with fail
  clear k0 k1 k2 k3 k4 k5 k6 fK x0 x1 x2 x3
  have K4 : Hid ((w3.setCell ⟨w.heap.size, 2, none⟩ (.int .i64 2)).heap[w.heap.size]? = some (.cells #[.int .i64 key, .int .i64 (N : Int), .int .i64 2, .int .i64 0, .int .i64 0, .int .i64 0, .int .i64 (steps + 1)] 30)) := by
    have := blk_set K3.out 2 (.int .i64 2)
    exact this
  have R4 : Hid ((w3.setCell ⟨w.heap.size, 2, none⟩ (.int .i64 2)).heap[w.heap.size + 1]? = some (.cells #[.int .i64 0, .int .i64 0, .int .i64 0, .int .i64 0, .int .i64 0, .int .i64 0, .int .i64 0] 30)) := hidS (blk_other (B := w.heap.size) R3.out (by omega) 2 (.int .i64 2))
  have G4 : Hid ((w3.setCell ⟨w.heap.size, 2, none⟩ (.int .i64 2)).heap[g]? = some (.cells #[.slice (some ⟨tb, o2, none⟩) s.slots.length c2, .slice (some ⟨b3, o3, none⟩) s.heads.length c3] 26)) := hidS (blk_other (B := w.heap.size) G3.out (by omega) 2 (.int .i64 2))
  have P4 : Hid (RowB tb o2 (flat (refS s (N : Int) (x.refs + 1)).slots) ((w3.setCell ⟨w.heap.size, 2, none⟩ (.int .i64 2)))) := hidS (RowB.other (g := w.heap.size) (k := 2) (v := .int .i64 2) P3.out (by omega))
  have Q4 : Hid (RowB b3 o3 s.heads ((w3.setCell ⟨w.heap.size, 2, none⟩ (.int .i64 2)))) := hidS (RowB.other (g := w.heap.size) (k := 2) (v := .int .i64 2) Q3.out (by omega))
  have X4 : Hid ((w3.setCell ⟨w.heap.size, 2, none⟩ (.int .i64 2)).heap[gx]? = some (.cells #[.int .i64 x.key, .int .i64 x.gen, .int .i64 x.refs, .int .i64 x.next] 45)) := hidS (blk_other (B := w.heap.size) X3.out (by omega) 2 (.int .i64 2))
  have T4 : Hid (Tch tb w ((w3.setCell ⟨w.heap.size, 2, none⟩ (.int .i64 2)))) := hidS (Tch.own T3.out (by omega) 2 (.int .i64 2))
  clear T3 K3 R3 G3 P3 Q3 X3
  generalize (w3.setCell ⟨w.heap.size, 2, none⟩ (.int .i64 2)) = w4 at K4 R4 G4 P4 Q4 X4 T4 ⊢
  have k0 := blk_cell K4.out 0
  have k1 := blk_cell K4.out 1
  have k2 := blk_cell K4.out 2
  have k3 := blk_cell K4.out 3
  have k4 := blk_cell K4.out 4
  have k5 := blk_cell K4.out 5
  have k6 := blk_cell K4.out 6
  simp at k0 k1 k2 k3 k4 k5 k6
  have kR := blk_cell R4.out
  have fR := blk_free R4.out
  have hP := P4
  have hT := T4
  go_wp2_with fail
  refine bodyPost_ret (v := .agg #[.int .i64 key, .int .i64 (N : Int), .int .i64 2, .int .i64 0, .int .i64 0, .int .i64 0, .int .i64 (steps + 1)]) (by simp [results, Try.results60, go_sem, *]) rfl ⟨rfl, ?_, ?_⟩
  · repeat (refine RowB.other ?_ (by omega))
    exact hP.out
  · repeat (refine Tch.own ?_ (by omega) _ _)
    exact hT.out
set_option maxHeartbeats 8000000 in
theorem l07Step_found (g tb o2 c2 b3 o3 c3 : Nat) (s : Slb) (key steps : Int) (N : Nat) (x : Slt) (w : World) (hr : rightSl s = true) (hk0 : 0 ≤ key) (ht0 : 0 ≤ steps) (ht1 : steps < 1000000) (hG : w.heap[g]? = some (.cells #[.slice (some ⟨tb, o2, none⟩) s.slots.length c2, .slice (some ⟨b3, o3, none⟩) s.heads.length c3] 26)) (P : RowB tb o2 (flat s.slots) w) (Q : RowB b3 o3 s.heads w) (n1 : tb ≠ b3) (n2 : tb ≠ g) (hN : N < s.slots.length) (hx : s.slots.getD N zeroSlt = x) (hq : x.key = key) :
    Calls Try.prog 60 #[.pointer (some ⟨g, 0, none⟩), .agg #[.int .i64 key, .int .i64 (N : Int), .int .i64 2, .int .i64 0, .int .i64 0, .int .i64 0, .int .i64 steps]] w fun e w' => e = .returned (.agg #[.int .i64 key, .int .i64 (N : Int), .int .i64 2, .int .i64 1, .int .i64 (N : Int), .int .i64 x.gen, .int .i64 (steps + 1)]) ∧ RowB tb o2 (flat s.slots) w' ∧ Tch tb w w' := by
  obtain ⟨_, m1, m2, m3, m4⟩ := right_leads hr
  have hqb : (x.key == key) = true := beq_iff_eq.2 hq
  have hNN : (0 : Int) ≤ (N : Int) ∧ (N : Int) < (s.slots.length : Int) := by omega
  have hNp : ¬ (N : Int) < 0 := by omega
  have K0 : Hid (((w.alloc (.cells #[.int .i64 key, .int .i64 (N : Int), .int .i64 2, .int .i64 0, .int .i64 0, .int .i64 0, .int .i64 steps] 30)).alloc (.cells #[.int .i64 0, .int .i64 0, .int .i64 0, .int .i64 0, .int .i64 0, .int .i64 0, .int .i64 0] 30)).heap[w.heap.size]? = some (.cells #[.int .i64 key, .int .i64 (N : Int), .int .i64 2, .int .i64 0, .int .i64 0, .int .i64 0, .int .i64 steps] 30)) := by
    show _ = _
    have := blk_alloc (heap_newG w (.cells #[.int .i64 key, .int .i64 (N : Int), .int .i64 2, .int .i64 0, .int .i64 0, .int .i64 0, .int .i64 steps] 30)) (.cells #[.int .i64 0, .int .i64 0, .int .i64 0, .int .i64 0, .int .i64 0, .int .i64 0, .int .i64 0] 30)
    simpa using this
  have R0 : Hid (((w.alloc (.cells #[.int .i64 key, .int .i64 (N : Int), .int .i64 2, .int .i64 0, .int .i64 0, .int .i64 0, .int .i64 steps] 30)).alloc (.cells #[.int .i64 0, .int .i64 0, .int .i64 0, .int .i64 0, .int .i64 0, .int .i64 0, .int .i64 0] 30)).heap[w.heap.size + 1]? = some (.cells #[.int .i64 0, .int .i64 0, .int .i64 0, .int .i64 0, .int .i64 0, .int .i64 0, .int .i64 0] 30)) := by
    show _ = _
    have := heap_newG (w.alloc (.cells #[.int .i64 key, .int .i64 (N : Int), .int .i64 2, .int .i64 0, .int .i64 0, .int .i64 0, .int .i64 steps] 30)) (.cells #[.int .i64 0, .int .i64 0, .int .i64 0, .int .i64 0, .int .i64 0, .int .i64 0, .int .i64 0] 30)
    simpa using this
  have hB0 := ((Below.refl w.heap.size w).alloc (Nat.le_refl _) (.cells #[.int .i64 key, .int .i64 (N : Int), .int .i64 2, .int .i64 0, .int .i64 0, .int .i64 0, .int .i64 steps] 30)).alloc (by simp) (.cells #[.int .i64 0, .int .i64 0, .int .i64 0, .int .i64 0, .int .i64 0, .int .i64 0, .int .i64 0] 30)
  have G0 := hidS (blk_later hG hB0)
  have P0 := hidS (P.later hB0)
  have Q0 := hidS (Q.later hB0)
  have T0 := hidS ((Tch.refl tb w).later hB0)
  have lg := blk_lt hG
  have lb := P.lt
  have lq := Q.lt
  clear hB0 hG P Q
  go_enter Try.func60, Try.ntmps60
  go_upto_region 1 with fail
  generalize (w.alloc (.cells #[.int .i64 key, .int .i64 (N : Int), .int .i64 2, .int .i64 0, .int .i64 0, .int .i64 0, .int .i64 steps] 30)).alloc (.cells #[.int .i64 0, .int .i64 0, .int .i64 0, .int .i64 0, .int .i64 0, .int .i64 0, .int .i64 0] 30) = w0 at K0 R0 G0 P0 Q0 T0 ⊢
  have k0 := blk_cell K0.out 0
  have k1 := blk_cell K0.out 1
  have k2 := blk_cell K0.out 2
  have k3 := blk_cell K0.out 3
  have k4 := blk_cell K0.out 4
  have k5 := blk_cell K0.out 5
  have k6 := blk_cell K0.out 6
  simp at k0 k1 k2 k3 k4 k5 k6
  have fK := blk_free K0.out
  go_upto_region 2 with fail
  clear k0 k1 k2 k3 k4 k5 k6 fK
  have K1 : Hid ((w0.setCell ⟨w.heap.size, 6, none⟩ (.int .i64 (steps + 1))).heap[w.heap.size]? = some (.cells #[.int .i64 key, .int .i64 (N : Int), .int .i64 2, .int .i64 0, .int .i64 0, .int .i64 0, .int .i64 (steps + 1)] 30)) := by
    have := blk_set K0.out 6 (.int .i64 (steps + 1))
    exact this
  have R1 : Hid ((w0.setCell ⟨w.heap.size, 6, none⟩ (.int .i64 (steps + 1))).heap[w.heap.size + 1]? = some (.cells #[.int .i64 0, .int .i64 0, .int .i64 0, .int .i64 0, .int .i64 0, .int .i64 0, .int .i64 0] 30)) := hidS (blk_other (B := w.heap.size) R0.out (by omega) 6 (.int .i64 (steps + 1)))
  have G1 : Hid ((w0.setCell ⟨w.heap.size, 6, none⟩ (.int .i64 (steps + 1))).heap[g]? = some (.cells #[.slice (some ⟨tb, o2, none⟩) s.slots.length c2, .slice (some ⟨b3, o3, none⟩) s.heads.length c3] 26)) := hidS (blk_other (B := w.heap.size) G0.out (by omega) 6 (.int .i64 (steps + 1)))
  have P1 : Hid (RowB tb o2 (flat s.slots) ((w0.setCell ⟨w.heap.size, 6, none⟩ (.int .i64 (steps + 1))))) := hidS (RowB.other (g := w.heap.size) (k := 6) (v := .int .i64 (steps + 1)) P0.out (by omega))
  have Q1 : Hid (RowB b3 o3 s.heads ((w0.setCell ⟨w.heap.size, 6, none⟩ (.int .i64 (steps + 1))))) := hidS (RowB.other (g := w.heap.size) (k := 6) (v := .int .i64 (steps + 1)) Q0.out (by omega))
  have T1 : Hid (Tch tb w ((w0.setCell ⟨w.heap.size, 6, none⟩ (.int .i64 (steps + 1))))) := hidS (Tch.own T0.out (by omega) 6 (.int .i64 (steps + 1)))
  clear T0 K0 R0 G0 P0 Q0
  generalize (w0.setCell ⟨w.heap.size, 6, none⟩ (.int .i64 (steps + 1))) = w1 at K1 R1 G1 P1 Q1 T1 ⊢
  have k0 := blk_cell K1.out 0
  have k1 := blk_cell K1.out 1
  have k2 := blk_cell K1.out 2
  have k3 := blk_cell K1.out 3
  have k4 := blk_cell K1.out 4
  have k5 := blk_cell K1.out 5
  have k6 := blk_cell K1.out 6
  simp at k0 k1 k2 k3 k4 k5 k6
  have g0 := blk_cell G1.out 0
  have g1 := blk_cell G1.out 1
  simp at g0 g1
  go_wp2_with fail
  clear k0 k1 k2 k3 k4 k5 k6 g0 g1
  refine grow_struct 9 _ [.is (.pointer (some ⟨g, 0, none⟩)), .is (.pointer (some ⟨g, 0, none⟩)), .is (.pointer (some ⟨g, 0, none⟩)), .is (.slice (some ⟨tb, o2, none⟩) s.slots.length c2), .is (.pointer (some ⟨w.heap.size, 1, none⟩)), .is (.int .i64 (N : Int)), .is (.pointer (some ⟨tb, o2 + N * 4, none⟩)), .is (.agg #[.int .i64 x.key, .int .i64 x.gen, .int .i64 x.refs, .int .i64 x.next]), .blk w1.heap.size #[.int .i64 0, .int .i64 0, .int .i64 0, .int .i64 0] 45] 8 7 5 41 45 45 #[.int .i64 0, .int .i64 0, .int .i64 0, .int .i64 0] #[.int .i64 x.key, .int .i64 x.gen, .int .i64 x.refs, .int .i64 x.next] rfl rfl rfl (by kernel_rfl) (by kernel_rfl) (by kernel_rfl) rfl rfl rfl rfl (by decide) (by decide) rfl rfl rfl (by first | kernel_rfl | simp [Value.oneCell']) (by kernel_rfl) ?steps7 ?fin7
  case steps7 =>
    refine ⟨?_, ?_, ?_, ?_, ?_, ?_, ?_, ?_, ?_, trivial⟩
    · refine ⟨rfl, fun v W ρ hC kc kf ks ki kd => ?_⟩
      have t0 : ρ (.tmp 0) = .pointer (some ⟨g, 0, none⟩) := ki 0 (by decide)
      simp [execOp, go_sem, kc, t0]
      exact ⟨hC, Below.refl _ _, rfl⟩
    · refine ⟨rfl, fun v W ρ hC kc kf ks ki kd => ?_⟩
      have d0 : v 0 = .pointer (some ⟨g, 0, none⟩) := (kdj kd 0 rfl :)
      have t34 : ρ (.tmp 34) = .pointer (some ⟨g, 0, none⟩) := (ks 0 34 (by decide) rfl).trans d0
      simp [execOp, go_sem, kc, t34]
      exact ⟨hC, Below.refl _ _, rfl⟩
    · refine ⟨rfl, fun v W ρ hC kc kf ks ki kd => ?_⟩
      have d1 : v 1 = .pointer (some ⟨g, 0, none⟩) := (kdj kd 1 rfl :)
      have t35 : ρ (.tmp 35) = .pointer (some ⟨g, 0, none⟩) := (ks 1 35 (by decide) rfl).trans d1
      simp [execOp, go_sem, kc, t35]
      exact ⟨hC, Below.refl _ _, rfl⟩
    · refine ⟨rfl, fun v W ρ hC kc kf ks ki kd => ?_⟩
      have d2 : v 2 = .pointer (some ⟨g, 0, none⟩) := (kdj kd 2 rfl :)
      have t36 : ρ (.tmp 36) = .pointer (some ⟨g, 0, none⟩) := (ks 2 36 (by decide) rfl).trans d2
      have hg := blk_later G1.out hC
      have c0 := blk_cell hg 0
      simp at c0
      simp [execOp, go_sem, kc, t36, c0]
      exact ⟨hC, Below.refl _ _, rfl⟩
    · refine ⟨rfl, fun v W ρ hC kc kf ks ki kd => ?_⟩
      have t3 : ρ (.tmp 3) = .pointer (some ⟨w.heap.size, 0, none⟩) := ki 3 (by decide)
      simp [execOp, go_sem, kc, t3]
      exact ⟨hC, Below.refl _ _, rfl⟩
    · refine ⟨rfl, fun v W ρ hC kc kf ks ki kd => ?_⟩
      have d4 : v 4 = .pointer (some ⟨w.heap.size, 1, none⟩) := (kdj kd 4 rfl :)
      have t38 : ρ (.tmp 38) = .pointer (some ⟨w.heap.size, 1, none⟩) := (ks 4 38 (by decide) rfl).trans d4
      have hg := blk_later K1.out hC
      have c1 := blk_cell hg 1
      simp at c1
      simp [execOp, go_sem, kc, t38, c1]
      exact ⟨hC, Below.refl _ _, rfl⟩
    · refine ⟨rfl, fun v W ρ hC kc kf ks ki kd => ?_⟩
      have d3 : v 3 = .slice (some ⟨tb, o2, none⟩) s.slots.length c2 := (kdj kd 3 rfl :)
      have t37 : ρ (.tmp 37) = .slice (some ⟨tb, o2, none⟩) s.slots.length c2 := (ks 3 37 (by decide) rfl).trans d3
      have d5 : v 5 = .int .i64 (N : Int) := (kdj kd 5 rfl :)
      have t39 : ρ (.tmp 39) = .int .i64 (N : Int) := (ks 5 39 (by decide) rfl).trans d5
      simp [execOp, go_sem, kc, t37, t39, hNN]
      exact ⟨hC, Below.refl _ _, rfl⟩
    · refine ⟨rfl, fun v W ρ hC kc kf ks ki kd => ?_⟩
      have d6 : v 6 = .pointer (some ⟨tb, o2 + N * 4, none⟩) := (kdj kd 6 rfl :)
      have t40 : ρ (.tmp 40) = .pointer (some ⟨tb, o2 + N * 4, none⟩) := (ks 6 40 (by decide) rfl).trans d6
      obtain ⟨b', o', eS, lS, d0, d1, d2, d3⟩ := (P1.out.later hC).read.slot hN
      injection eS with eS; injection eS with eS1 eS2
      subst eS1 eS2
      rw [hx] at d0 d1 d2 d3
      simp [execOp, go_sem, kc, t40, d0, d1, d2, d3]
      exact ⟨hC, Below.refl _ _, rfl⟩
    · refine ⟨rfl, fun v W ρ hC kc kf ks ki kd => ?_⟩
      simp [execOp, go_sem]
      exact ⟨hC.alloc hC.size _, (Below.refl _ _).alloc (Nat.le_refl _) _, W.heap.size, rfl, hC.size, heap_newG _ _⟩
  intro v7 w2 gx hb hvB hn hBk hall
  simp [upto, Act.put]
  rw [hvB]
  clear hall hvB
  have hX := hidS hBk
  clear hBk
  have lT := T1.out.size
  have lR := blk_lt R1.out
  have K2 := hidS (blk_later K1.out hb)
  have R2 := hidS (blk_later R1.out hb)
  have G2 := hidS (blk_later G1.out hb)
  have P2 := hidS (P1.out.later hb)
  have Q2 := hidS (Q1.out.later hb)
  have T2 := hidS (T1.out.later hb)
  clear T1 hb K1 R1 G1 P1 Q1
  have X2 := hX
  clear hX
  have k0 := blk_cell K2.out 0
  have k1 := blk_cell K2.out 1
  have k2 := blk_cell K2.out 2
  have k3 := blk_cell K2.out 3
  have k4 := blk_cell K2.out 4
  have k5 := blk_cell K2.out 5
  have k6 := blk_cell K2.out 6
  simp at k0 k1 k2 k3 k4 k5 k6
  have fK := blk_free K2.out
  have x0 := blk_cell X2.out 0
  have x1 := blk_cell X2.out 1
  have x2 := blk_cell X2.out 2
  have x3 := blk_cell X2.out 3
  simp at x0 x1 x2 x3
  go_upto_region 11 with fail
  clear k0 k1 k2 k3 k4 k5 k6 fK x0 x1 x2 x3
  have K3 : Hid ((w2.setCell ⟨w.heap.size, 3, none⟩ (.int .i64 1)).heap[w.heap.size]? = some (.cells #[.int .i64 key, .int .i64 (N : Int), .int .i64 2, .int .i64 1, .int .i64 0, .int .i64 0, .int .i64 (steps + 1)] 30)) := by
    have := blk_set K2.out 3 (.int .i64 1)
    exact this
  have R3 : Hid ((w2.setCell ⟨w.heap.size, 3, none⟩ (.int .i64 1)).heap[w.heap.size + 1]? = some (.cells #[.int .i64 0, .int .i64 0, .int .i64 0, .int .i64 0, .int .i64 0, .int .i64 0, .int .i64 0] 30)) := hidS (blk_other (B := w.heap.size) R2.out (by omega) 3 (.int .i64 1))
  have G3 : Hid ((w2.setCell ⟨w.heap.size, 3, none⟩ (.int .i64 1)).heap[g]? = some (.cells #[.slice (some ⟨tb, o2, none⟩) s.slots.length c2, .slice (some ⟨b3, o3, none⟩) s.heads.length c3] 26)) := hidS (blk_other (B := w.heap.size) G2.out (by omega) 3 (.int .i64 1))
  have P3 : Hid (RowB tb o2 (flat s.slots) ((w2.setCell ⟨w.heap.size, 3, none⟩ (.int .i64 1)))) := hidS (RowB.other (g := w.heap.size) (k := 3) (v := .int .i64 1) P2.out (by omega))
  have Q3 : Hid (RowB b3 o3 s.heads ((w2.setCell ⟨w.heap.size, 3, none⟩ (.int .i64 1)))) := hidS (RowB.other (g := w.heap.size) (k := 3) (v := .int .i64 1) Q2.out (by omega))
  have X3 : Hid ((w2.setCell ⟨w.heap.size, 3, none⟩ (.int .i64 1)).heap[gx]? = some (.cells #[.int .i64 x.key, .int .i64 x.gen, .int .i64 x.refs, .int .i64 x.next] 45)) := hidS (blk_other (B := w.heap.size) X2.out (by omega) 3 (.int .i64 1))
  have T3 : Hid (Tch tb w ((w2.setCell ⟨w.heap.size, 3, none⟩ (.int .i64 1)))) := hidS (Tch.own T2.out (by omega) 3 (.int .i64 1))
  clear T2 K2 R2 G2 P2 Q2 X2
  generalize (w2.setCell ⟨w.heap.size, 3, none⟩ (.int .i64 1)) = w3 at K3 R3 G3 P3 Q3 X3 T3 ⊢
  have k0 := blk_cell K3.out 0
  have k1 := blk_cell K3.out 1
  have k2 := blk_cell K3.out 2
  have k3 := blk_cell K3.out 3
  have k4 := blk_cell K3.out 4
  have k5 := blk_cell K3.out 5
  have k6 := blk_cell K3.out 6
  simp at k0 k1 k2 k3 k4 k5 k6
  have fK := blk_free K3.out
  have x0 := blk_cell X3.out 0
  have x1 := blk_cell X3.out 1
  have x2 := blk_cell X3.out 2
  have x3 := blk_cell X3.out 3
  simp at x0 x1 x2 x3
  go_upto_region 12 with fail
  clear k0 k1 k2 k3 k4 k5 k6 fK x0 x1 x2 x3
  have K4 : Hid ((w3.setCell ⟨w.heap.size, 4, none⟩ (.int .i64 (N : Int))).heap[w.heap.size]? = some (.cells #[.int .i64 key, .int .i64 (N : Int), .int .i64 2, .int .i64 1, .int .i64 (N : Int), .int .i64 0, .int .i64 (steps + 1)] 30)) := by
    have := blk_set K3.out 4 (.int .i64 (N : Int))
    exact this
  have R4 : Hid ((w3.setCell ⟨w.heap.size, 4, none⟩ (.int .i64 (N : Int))).heap[w.heap.size + 1]? = some (.cells #[.int .i64 0, .int .i64 0, .int .i64 0, .int .i64 0, .int .i64 0, .int .i64 0, .int .i64 0] 30)) := hidS (blk_other (B := w.heap.size) R3.out (by omega) 4 (.int .i64 (N : Int)))
  have G4 : Hid ((w3.setCell ⟨w.heap.size, 4, none⟩ (.int .i64 (N : Int))).heap[g]? = some (.cells #[.slice (some ⟨tb, o2, none⟩) s.slots.length c2, .slice (some ⟨b3, o3, none⟩) s.heads.length c3] 26)) := hidS (blk_other (B := w.heap.size) G3.out (by omega) 4 (.int .i64 (N : Int)))
  have P4 : Hid (RowB tb o2 (flat s.slots) ((w3.setCell ⟨w.heap.size, 4, none⟩ (.int .i64 (N : Int))))) := hidS (RowB.other (g := w.heap.size) (k := 4) (v := .int .i64 (N : Int)) P3.out (by omega))
  have Q4 : Hid (RowB b3 o3 s.heads ((w3.setCell ⟨w.heap.size, 4, none⟩ (.int .i64 (N : Int))))) := hidS (RowB.other (g := w.heap.size) (k := 4) (v := .int .i64 (N : Int)) Q3.out (by omega))
  have X4 : Hid ((w3.setCell ⟨w.heap.size, 4, none⟩ (.int .i64 (N : Int))).heap[gx]? = some (.cells #[.int .i64 x.key, .int .i64 x.gen, .int .i64 x.refs, .int .i64 x.next] 45)) := hidS (blk_other (B := w.heap.size) X3.out (by omega) 4 (.int .i64 (N : Int)))
  have T4 : Hid (Tch tb w ((w3.setCell ⟨w.heap.size, 4, none⟩ (.int .i64 (N : Int))))) := hidS (Tch.own T3.out (by omega) 4 (.int .i64 (N : Int)))
  clear T3 K3 R3 G3 P3 Q3 X3
  generalize (w3.setCell ⟨w.heap.size, 4, none⟩ (.int .i64 (N : Int))) = w4 at K4 R4 G4 P4 Q4 X4 T4 ⊢
  have k0 := blk_cell K4.out 0
  have k1 := blk_cell K4.out 1
  have k2 := blk_cell K4.out 2
  have k3 := blk_cell K4.out 3
  have k4 := blk_cell K4.out 4
  have k5 := blk_cell K4.out 5
  have k6 := blk_cell K4.out 6
  simp at k0 k1 k2 k3 k4 k5 k6
  have fK := blk_free K4.out
  have x0 := blk_cell X4.out 0
  have x1 := blk_cell X4.out 1
  have x2 := blk_cell X4.out 2
  have x3 := blk_cell X4.out 3
  simp at x0 x1 x2 x3
  go_upto_region 26 with fail
  clear k0 k1 k2 k3 k4 k5 k6 fK x0 x1 x2 x3
  have K5 : Hid ((w4.setCell ⟨w.heap.size, 5, none⟩ (.int .i64 x.gen)).heap[w.heap.size]? = some (.cells #[.int .i64 key, .int .i64 (N : Int), .int .i64 2, .int .i64 1, .int .i64 (N : Int), .int .i64 x.gen, .int .i64 (steps + 1)] 30)) := by
    have := blk_set K4.out 5 (.int .i64 x.gen)
    exact this
  have R5 : Hid ((w4.setCell ⟨w.heap.size, 5, none⟩ (.int .i64 x.gen)).heap[w.heap.size + 1]? = some (.cells #[.int .i64 0, .int .i64 0, .int .i64 0, .int .i64 0, .int .i64 0, .int .i64 0, .int .i64 0] 30)) := hidS (blk_other (B := w.heap.size) R4.out (by omega) 5 (.int .i64 x.gen))
  have G5 : Hid ((w4.setCell ⟨w.heap.size, 5, none⟩ (.int .i64 x.gen)).heap[g]? = some (.cells #[.slice (some ⟨tb, o2, none⟩) s.slots.length c2, .slice (some ⟨b3, o3, none⟩) s.heads.length c3] 26)) := hidS (blk_other (B := w.heap.size) G4.out (by omega) 5 (.int .i64 x.gen))
  have P5 : Hid (RowB tb o2 (flat s.slots) ((w4.setCell ⟨w.heap.size, 5, none⟩ (.int .i64 x.gen)))) := hidS (RowB.other (g := w.heap.size) (k := 5) (v := .int .i64 x.gen) P4.out (by omega))
  have Q5 : Hid (RowB b3 o3 s.heads ((w4.setCell ⟨w.heap.size, 5, none⟩ (.int .i64 x.gen)))) := hidS (RowB.other (g := w.heap.size) (k := 5) (v := .int .i64 x.gen) Q4.out (by omega))
  have X5 : Hid ((w4.setCell ⟨w.heap.size, 5, none⟩ (.int .i64 x.gen)).heap[gx]? = some (.cells #[.int .i64 x.key, .int .i64 x.gen, .int .i64 x.refs, .int .i64 x.next] 45)) := hidS (blk_other (B := w.heap.size) X4.out (by omega) 5 (.int .i64 x.gen))
  have T5 : Hid (Tch tb w ((w4.setCell ⟨w.heap.size, 5, none⟩ (.int .i64 x.gen)))) := hidS (Tch.own T4.out (by omega) 5 (.int .i64 x.gen))
  clear T4 K4 R4 G4 P4 Q4 X4
  generalize (w4.setCell ⟨w.heap.size, 5, none⟩ (.int .i64 x.gen)) = w5 at K5 R5 G5 P5 Q5 X5 T5 ⊢
  have k0 := blk_cell K5.out 0
  have k1 := blk_cell K5.out 1
  have k2 := blk_cell K5.out 2
  have k3 := blk_cell K5.out 3
  have k4 := blk_cell K5.out 4
  have k5 := blk_cell K5.out 5
  have k6 := blk_cell K5.out 6
  simp at k0 k1 k2 k3 k4 k5 k6
  have kR := blk_cell R5.out
  have fR := blk_free R5.out
  have hP := P5
  have hT := T5
  go_wp2_with fail
  refine bodyPost_ret (v := .agg #[.int .i64 key, .int .i64 (N : Int), .int .i64 2, .int .i64 1, .int .i64 (N : Int), .int .i64 x.gen, .int .i64 (steps + 1)]) (by simp [results, Try.results60, go_sem, *]) rfl ⟨rfl, ?_, ?_⟩
  · repeat (refine RowB.other ?_ (by omega))
    exact hP.out
  · repeat (refine Tch.own ?_ (by omega) _ _)
    exact hT.out
set_option maxHeartbeats 8000000 in
theorem l07Step_loose (g tb o2 c2 b3 o3 c3 : Nat) (s : Slb) (key steps : Int) (N : Nat) (x : Slt) (w : World) (hr : rightSl s = true) (hk0 : 0 ≤ key) (ht0 : 0 ≤ steps) (ht1 : steps < 1000000) (hG : w.heap[g]? = some (.cells #[.slice (some ⟨tb, o2, none⟩) s.slots.length c2, .slice (some ⟨b3, o3, none⟩) s.heads.length c3] 26)) (P : RowB tb o2 (flat s.slots) w) (Q : RowB b3 o3 s.heads w) (n1 : tb ≠ b3) (n2 : tb ≠ g) (hN : N < s.slots.length) (hx : s.slots.getD N zeroSlt = x) (hq : ¬ x.key = key) :
    Calls Try.prog 60 #[.pointer (some ⟨g, 0, none⟩), .agg #[.int .i64 key, .int .i64 (N : Int), .int .i64 2, .int .i64 0, .int .i64 0, .int .i64 0, .int .i64 steps]] w fun e w' => e = .returned (.agg #[.int .i64 key, .int .i64 (hdK s key), .int .i64 0, .int .i64 0, .int .i64 0, .int .i64 0, .int .i64 (steps + 1)]) ∧ RowB tb o2 (flat (refS s (N : Int) (x.refs - 1)).slots) w' ∧ Tch tb w w' := by
  obtain ⟨_, m1, m2, m3, m4⟩ := right_leads hr
  have HH := hidS (fun W (h : RowZ (some ⟨b3, o3, none⟩) s.heads W) => l07Head_any tb o2 b3 o3 c2 c3 s key W h hk0 m3 m4)
  generalize hdK s key = hd at HH ⊢
  have EX : Hid (slotN s (N : Int) = x) := by show _ = _; rw [slot_nat]; exact hx
  have hx0 := (refs_nat hr hN).1
  have hx1 := (refs_nat hr hN).2
  rw [hx] at hx0 hx1
  have hqb : (x.key == key) = false := beq_eq_false_iff_ne.2 hq
  have hNN : (0 : Int) ≤ (N : Int) ∧ (N : Int) < (s.slots.length : Int) := by omega
  have hNp : ¬ (N : Int) < 0 := by omega
  have K0 : Hid (((w.alloc (.cells #[.int .i64 key, .int .i64 (N : Int), .int .i64 2, .int .i64 0, .int .i64 0, .int .i64 0, .int .i64 steps] 30)).alloc (.cells #[.int .i64 0, .int .i64 0, .int .i64 0, .int .i64 0, .int .i64 0, .int .i64 0, .int .i64 0] 30)).heap[w.heap.size]? = some (.cells #[.int .i64 key, .int .i64 (N : Int), .int .i64 2, .int .i64 0, .int .i64 0, .int .i64 0, .int .i64 steps] 30)) := by
    show _ = _
    have := blk_alloc (heap_newG w (.cells #[.int .i64 key, .int .i64 (N : Int), .int .i64 2, .int .i64 0, .int .i64 0, .int .i64 0, .int .i64 steps] 30)) (.cells #[.int .i64 0, .int .i64 0, .int .i64 0, .int .i64 0, .int .i64 0, .int .i64 0, .int .i64 0] 30)
    simpa using this
  have R0 : Hid (((w.alloc (.cells #[.int .i64 key, .int .i64 (N : Int), .int .i64 2, .int .i64 0, .int .i64 0, .int .i64 0, .int .i64 steps] 30)).alloc (.cells #[.int .i64 0, .int .i64 0, .int .i64 0, .int .i64 0, .int .i64 0, .int .i64 0, .int .i64 0] 30)).heap[w.heap.size + 1]? = some (.cells #[.int .i64 0, .int .i64 0, .int .i64 0, .int .i64 0, .int .i64 0, .int .i64 0, .int .i64 0] 30)) := by
    show _ = _
    have := heap_newG (w.alloc (.cells #[.int .i64 key, .int .i64 (N : Int), .int .i64 2, .int .i64 0, .int .i64 0, .int .i64 0, .int .i64 steps] 30)) (.cells #[.int .i64 0, .int .i64 0, .int .i64 0, .int .i64 0, .int .i64 0, .int .i64 0, .int .i64 0] 30)
    simpa using this
  have hB0 := ((Below.refl w.heap.size w).alloc (Nat.le_refl _) (.cells #[.int .i64 key, .int .i64 (N : Int), .int .i64 2, .int .i64 0, .int .i64 0, .int .i64 0, .int .i64 steps] 30)).alloc (by simp) (.cells #[.int .i64 0, .int .i64 0, .int .i64 0, .int .i64 0, .int .i64 0, .int .i64 0, .int .i64 0] 30)
  have G0 := hidS (blk_later hG hB0)
  have P0 := hidS (P.later hB0)
  have Q0 := hidS (Q.later hB0)
  have T0 := hidS ((Tch.refl tb w).later hB0)
  have lg := blk_lt hG
  have lb := P.lt
  have lq := Q.lt
  clear hB0 hG P Q
  go_enter Try.func60, Try.ntmps60
  go_upto_region 1 with fail
  generalize (w.alloc (.cells #[.int .i64 key, .int .i64 (N : Int), .int .i64 2, .int .i64 0, .int .i64 0, .int .i64 0, .int .i64 steps] 30)).alloc (.cells #[.int .i64 0, .int .i64 0, .int .i64 0, .int .i64 0, .int .i64 0, .int .i64 0, .int .i64 0] 30) = w0 at K0 R0 G0 P0 Q0 T0 ⊢
  have k0 := blk_cell K0.out 0
  have k1 := blk_cell K0.out 1
  have k2 := blk_cell K0.out 2
  have k3 := blk_cell K0.out 3
  have k4 := blk_cell K0.out 4
  have k5 := blk_cell K0.out 5
  have k6 := blk_cell K0.out 6
  simp at k0 k1 k2 k3 k4 k5 k6
  have fK := blk_free K0.out
  go_upto_region 2 with fail
  clear k0 k1 k2 k3 k4 k5 k6 fK
  have K1 : Hid ((w0.setCell ⟨w.heap.size, 6, none⟩ (.int .i64 (steps + 1))).heap[w.heap.size]? = some (.cells #[.int .i64 key, .int .i64 (N : Int), .int .i64 2, .int .i64 0, .int .i64 0, .int .i64 0, .int .i64 (steps + 1)] 30)) := by
    have := blk_set K0.out 6 (.int .i64 (steps + 1))
    exact this
  have R1 : Hid ((w0.setCell ⟨w.heap.size, 6, none⟩ (.int .i64 (steps + 1))).heap[w.heap.size + 1]? = some (.cells #[.int .i64 0, .int .i64 0, .int .i64 0, .int .i64 0, .int .i64 0, .int .i64 0, .int .i64 0] 30)) := hidS (blk_other (B := w.heap.size) R0.out (by omega) 6 (.int .i64 (steps + 1)))
  have G1 : Hid ((w0.setCell ⟨w.heap.size, 6, none⟩ (.int .i64 (steps + 1))).heap[g]? = some (.cells #[.slice (some ⟨tb, o2, none⟩) s.slots.length c2, .slice (some ⟨b3, o3, none⟩) s.heads.length c3] 26)) := hidS (blk_other (B := w.heap.size) G0.out (by omega) 6 (.int .i64 (steps + 1)))
  have P1 : Hid (RowB tb o2 (flat s.slots) ((w0.setCell ⟨w.heap.size, 6, none⟩ (.int .i64 (steps + 1))))) := hidS (RowB.other (g := w.heap.size) (k := 6) (v := .int .i64 (steps + 1)) P0.out (by omega))
  have Q1 : Hid (RowB b3 o3 s.heads ((w0.setCell ⟨w.heap.size, 6, none⟩ (.int .i64 (steps + 1))))) := hidS (RowB.other (g := w.heap.size) (k := 6) (v := .int .i64 (steps + 1)) Q0.out (by omega))
  have T1 : Hid (Tch tb w ((w0.setCell ⟨w.heap.size, 6, none⟩ (.int .i64 (steps + 1))))) := hidS (Tch.own T0.out (by omega) 6 (.int .i64 (steps + 1)))
  clear T0 K0 R0 G0 P0 Q0
  generalize (w0.setCell ⟨w.heap.size, 6, none⟩ (.int .i64 (steps + 1))) = w1 at K1 R1 G1 P1 Q1 T1 ⊢
  have k0 := blk_cell K1.out 0
  have k1 := blk_cell K1.out 1
  have k2 := blk_cell K1.out 2
  have k3 := blk_cell K1.out 3
  have k4 := blk_cell K1.out 4
  have k5 := blk_cell K1.out 5
  have k6 := blk_cell K1.out 6
  simp at k0 k1 k2 k3 k4 k5 k6
  have g0 := blk_cell G1.out 0
  have g1 := blk_cell G1.out 1
  simp at g0 g1
  go_wp2_with fail
  clear k0 k1 k2 k3 k4 k5 k6 g0 g1
  refine grow_struct 9 _ [.is (.pointer (some ⟨g, 0, none⟩)), .is (.pointer (some ⟨g, 0, none⟩)), .is (.pointer (some ⟨g, 0, none⟩)), .is (.slice (some ⟨tb, o2, none⟩) s.slots.length c2), .is (.pointer (some ⟨w.heap.size, 1, none⟩)), .is (.int .i64 (N : Int)), .is (.pointer (some ⟨tb, o2 + N * 4, none⟩)), .is (.agg #[.int .i64 x.key, .int .i64 x.gen, .int .i64 x.refs, .int .i64 x.next]), .blk w1.heap.size #[.int .i64 0, .int .i64 0, .int .i64 0, .int .i64 0] 45] 8 7 5 41 45 45 #[.int .i64 0, .int .i64 0, .int .i64 0, .int .i64 0] #[.int .i64 x.key, .int .i64 x.gen, .int .i64 x.refs, .int .i64 x.next] rfl rfl rfl (by kernel_rfl) (by kernel_rfl) (by kernel_rfl) rfl rfl rfl rfl (by decide) (by decide) rfl rfl rfl (by first | kernel_rfl | simp [Value.oneCell']) (by kernel_rfl) ?steps7 ?fin7
  case steps7 =>
    refine ⟨?_, ?_, ?_, ?_, ?_, ?_, ?_, ?_, ?_, trivial⟩
    · refine ⟨rfl, fun v W ρ hC kc kf ks ki kd => ?_⟩
      have t0 : ρ (.tmp 0) = .pointer (some ⟨g, 0, none⟩) := ki 0 (by decide)
      simp [execOp, go_sem, kc, t0]
      exact ⟨hC, Below.refl _ _, rfl⟩
    · refine ⟨rfl, fun v W ρ hC kc kf ks ki kd => ?_⟩
      have d0 : v 0 = .pointer (some ⟨g, 0, none⟩) := (kdj kd 0 rfl :)
      have t34 : ρ (.tmp 34) = .pointer (some ⟨g, 0, none⟩) := (ks 0 34 (by decide) rfl).trans d0
      simp [execOp, go_sem, kc, t34]
      exact ⟨hC, Below.refl _ _, rfl⟩
    · refine ⟨rfl, fun v W ρ hC kc kf ks ki kd => ?_⟩
      have d1 : v 1 = .pointer (some ⟨g, 0, none⟩) := (kdj kd 1 rfl :)
      have t35 : ρ (.tmp 35) = .pointer (some ⟨g, 0, none⟩) := (ks 1 35 (by decide) rfl).trans d1
      simp [execOp, go_sem, kc, t35]
      exact ⟨hC, Below.refl _ _, rfl⟩
    · refine ⟨rfl, fun v W ρ hC kc kf ks ki kd => ?_⟩
      have d2 : v 2 = .pointer (some ⟨g, 0, none⟩) := (kdj kd 2 rfl :)
      have t36 : ρ (.tmp 36) = .pointer (some ⟨g, 0, none⟩) := (ks 2 36 (by decide) rfl).trans d2
      have hg := blk_later G1.out hC
      have c0 := blk_cell hg 0
      simp at c0
      simp [execOp, go_sem, kc, t36, c0]
      exact ⟨hC, Below.refl _ _, rfl⟩
    · refine ⟨rfl, fun v W ρ hC kc kf ks ki kd => ?_⟩
      have t3 : ρ (.tmp 3) = .pointer (some ⟨w.heap.size, 0, none⟩) := ki 3 (by decide)
      simp [execOp, go_sem, kc, t3]
      exact ⟨hC, Below.refl _ _, rfl⟩
    · refine ⟨rfl, fun v W ρ hC kc kf ks ki kd => ?_⟩
      have d4 : v 4 = .pointer (some ⟨w.heap.size, 1, none⟩) := (kdj kd 4 rfl :)
      have t38 : ρ (.tmp 38) = .pointer (some ⟨w.heap.size, 1, none⟩) := (ks 4 38 (by decide) rfl).trans d4
      have hg := blk_later K1.out hC
      have c1 := blk_cell hg 1
      simp at c1
      simp [execOp, go_sem, kc, t38, c1]
      exact ⟨hC, Below.refl _ _, rfl⟩
    · refine ⟨rfl, fun v W ρ hC kc kf ks ki kd => ?_⟩
      have d3 : v 3 = .slice (some ⟨tb, o2, none⟩) s.slots.length c2 := (kdj kd 3 rfl :)
      have t37 : ρ (.tmp 37) = .slice (some ⟨tb, o2, none⟩) s.slots.length c2 := (ks 3 37 (by decide) rfl).trans d3
      have d5 : v 5 = .int .i64 (N : Int) := (kdj kd 5 rfl :)
      have t39 : ρ (.tmp 39) = .int .i64 (N : Int) := (ks 5 39 (by decide) rfl).trans d5
      simp [execOp, go_sem, kc, t37, t39, hNN]
      exact ⟨hC, Below.refl _ _, rfl⟩
    · refine ⟨rfl, fun v W ρ hC kc kf ks ki kd => ?_⟩
      have d6 : v 6 = .pointer (some ⟨tb, o2 + N * 4, none⟩) := (kdj kd 6 rfl :)
      have t40 : ρ (.tmp 40) = .pointer (some ⟨tb, o2 + N * 4, none⟩) := (ks 6 40 (by decide) rfl).trans d6
      obtain ⟨b', o', eS, lS, d0, d1, d2, d3⟩ := (P1.out.later hC).read.slot hN
      injection eS with eS; injection eS with eS1 eS2
      subst eS1 eS2
      rw [hx] at d0 d1 d2 d3
      simp [execOp, go_sem, kc, t40, d0, d1, d2, d3]
      exact ⟨hC, Below.refl _ _, rfl⟩
    · refine ⟨rfl, fun v W ρ hC kc kf ks ki kd => ?_⟩
      simp [execOp, go_sem]
      exact ⟨hC.alloc hC.size _, (Below.refl _ _).alloc (Nat.le_refl _) _, W.heap.size, rfl, hC.size, heap_newG _ _⟩
  intro v7 w2 gx hb hvB hn hBk hall
  simp [upto, Act.put]
  rw [hvB]
  clear hall hvB
  have hX := hidS hBk
  clear hBk
  have lT := T1.out.size
  have lR := blk_lt R1.out
  have K2 := hidS (blk_later K1.out hb)
  have R2 := hidS (blk_later R1.out hb)
  have G2 := hidS (blk_later G1.out hb)
  have P2 := hidS (P1.out.later hb)
  have Q2 := hidS (Q1.out.later hb)
  have T2 := hidS (T1.out.later hb)
  clear T1 hb K1 R1 G1 P1 Q1
  have X2 := hX
  clear hX
  have k0 := blk_cell K2.out 0
  have k1 := blk_cell K2.out 1
  have k2 := blk_cell K2.out 2
  have k3 := blk_cell K2.out 3
  have k4 := blk_cell K2.out 4
  have k5 := blk_cell K2.out 5
  have k6 := blk_cell K2.out 6
  simp at k0 k1 k2 k3 k4 k5 k6
  have g0 := blk_cell G2.out 0
  have g1 := blk_cell G2.out 1
  simp at g0 g1
  have x0 := blk_cell X2.out 0
  have x1 := blk_cell X2.out 1
  have x2 := blk_cell X2.out 2
  have x3 := blk_cell X2.out 3
  simp at x0 x1 x2 x3
  have f2 := (rowB_cells P2.out (4 * N + 2) (by rw [flat_len]; omega)).2
  rw [show o2 + (4 * N + 2) = o2 + N * 4 + 2 by omega] at f2
  obtain ⟨b', o', eS, lS, d0, d1, d2, d3⟩ := P2.out.read.slot hN
  injection eS with eS; injection eS with eS1 eS2
  subst eS1 eS2
  rw [hx] at d2
  go_wp2_with fail
  go_region
  clear k0 k1 k2 k3 k4 k5 k6 g0 g1 x0 x1 x2 x3 f2 lS d0 d1 d2 d3
  have K3 : Hid (((w2.setCell ⟨tb, o2 + N * 4 + 2, none⟩ (.int .i64 (x.refs - 1))).drew).heap[w.heap.size]? = some (.cells #[.int .i64 key, .int .i64 (N : Int), .int .i64 2, .int .i64 0, .int .i64 0, .int .i64 0, .int .i64 (steps + 1)] 30)) := hidS (blk_other (B := tb) K2.out (by omega) (o2 + N * 4 + 2) (.int .i64 (x.refs - 1)))
  have R3 : Hid (((w2.setCell ⟨tb, o2 + N * 4 + 2, none⟩ (.int .i64 (x.refs - 1))).drew).heap[w.heap.size + 1]? = some (.cells #[.int .i64 0, .int .i64 0, .int .i64 0, .int .i64 0, .int .i64 0, .int .i64 0, .int .i64 0] 30)) := hidS (blk_other (B := tb) R2.out (by omega) (o2 + N * 4 + 2) (.int .i64 (x.refs - 1)))
  have G3 : Hid (((w2.setCell ⟨tb, o2 + N * 4 + 2, none⟩ (.int .i64 (x.refs - 1))).drew).heap[g]? = some (.cells #[.slice (some ⟨tb, o2, none⟩) s.slots.length c2, .slice (some ⟨b3, o3, none⟩) s.heads.length c3] 26)) := hidS (blk_other (B := tb) G2.out (by omega) (o2 + N * 4 + 2) (.int .i64 (x.refs - 1)))
  have P3 : Hid (RowB tb o2 (flat (refS s (N : Int) (x.refs - 1)).slots) ((w2.setCell ⟨tb, o2 + N * 4 + 2, none⟩ (.int .i64 (x.refs - 1))).drew)) := by
    have h := P2.out.set (4 * N + 2) (x.refs - 1) (by rw [flat_len]; omega)
    rw [flat_refs _ _ _ hN, hx, show o2 + (4 * N + 2) = o2 + N * 4 + 2 by omega] at h
    have e : (refS s (N : Int) (x.refs - 1)).slots = s.slots.set N { x with refs := x.refs - 1 } := by unfold refS; rw [EX.out]; rfl
    show RowB _ _ _ _
    rw [e]
    exact h
  have Q3 : Hid (RowB b3 o3 s.heads ((w2.setCell ⟨tb, o2 + N * 4 + 2, none⟩ (.int .i64 (x.refs - 1))).drew)) := hidS (RowB.other (g := tb) (k := o2 + N * 4 + 2) (v := .int .i64 (x.refs - 1)) Q2.out (by omega))
  have X3 : Hid (((w2.setCell ⟨tb, o2 + N * 4 + 2, none⟩ (.int .i64 (x.refs - 1))).drew).heap[gx]? = some (.cells #[.int .i64 x.key, .int .i64 x.gen, .int .i64 x.refs, .int .i64 x.next] 45)) := hidS (blk_other (B := tb) X2.out (by omega) (o2 + N * 4 + 2) (.int .i64 (x.refs - 1)))
  have T3 : Hid (Tch tb w ((w2.setCell ⟨tb, o2 + N * 4 + 2, none⟩ (.int .i64 (x.refs - 1))).drew)) := hidS (Tch.set T2.out (o2 + N * 4 + 2) (.int .i64 (x.refs - 1))).drew
  clear T2 K2 R2 G2 P2 Q2 X2
  generalize (w2.setCell ⟨tb, o2 + N * 4 + 2, none⟩ (.int .i64 (x.refs - 1))).drew = w3 at K3 R3 G3 P3 Q3 X3 T3 ⊢
  have k0 := blk_cell K3.out 0
  have k1 := blk_cell K3.out 1
  have k2 := blk_cell K3.out 2
  have k3 := blk_cell K3.out 3
  have k4 := blk_cell K3.out 4
  have k5 := blk_cell K3.out 5
  have k6 := blk_cell K3.out 6
  simp at k0 k1 k2 k3 k4 k5 k6
  have fK := blk_free K3.out
  have x0 := blk_cell X3.out 0
  have x1 := blk_cell X3.out 1
  have x2 := blk_cell X3.out 2
  have x3 := blk_cell X3.out 3
  simp at x0 x1 x2 x3
  go_upto_region 15 with fail
  clear k0 k1 k2 k3 k4 k5 k6 fK x0 x1 x2 x3
  have K4 : Hid ((w3.setCell ⟨w.heap.size, 2, none⟩ (.int .i64 0)).heap[w.heap.size]? = some (.cells #[.int .i64 key, .int .i64 (N : Int), .int .i64 0, .int .i64 0, .int .i64 0, .int .i64 0, .int .i64 (steps + 1)] 30)) := by
    have := blk_set K3.out 2 (.int .i64 0)
    exact this
  have R4 : Hid ((w3.setCell ⟨w.heap.size, 2, none⟩ (.int .i64 0)).heap[w.heap.size + 1]? = some (.cells #[.int .i64 0, .int .i64 0, .int .i64 0, .int .i64 0, .int .i64 0, .int .i64 0, .int .i64 0] 30)) := hidS (blk_other (B := w.heap.size) R3.out (by omega) 2 (.int .i64 0))
  have G4 : Hid ((w3.setCell ⟨w.heap.size, 2, none⟩ (.int .i64 0)).heap[g]? = some (.cells #[.slice (some ⟨tb, o2, none⟩) s.slots.length c2, .slice (some ⟨b3, o3, none⟩) s.heads.length c3] 26)) := hidS (blk_other (B := w.heap.size) G3.out (by omega) 2 (.int .i64 0))
  have P4 : Hid (RowB tb o2 (flat (refS s (N : Int) (x.refs - 1)).slots) ((w3.setCell ⟨w.heap.size, 2, none⟩ (.int .i64 0)))) := hidS (RowB.other (g := w.heap.size) (k := 2) (v := .int .i64 0) P3.out (by omega))
  have Q4 : Hid (RowB b3 o3 s.heads ((w3.setCell ⟨w.heap.size, 2, none⟩ (.int .i64 0)))) := hidS (RowB.other (g := w.heap.size) (k := 2) (v := .int .i64 0) Q3.out (by omega))
  have X4 : Hid ((w3.setCell ⟨w.heap.size, 2, none⟩ (.int .i64 0)).heap[gx]? = some (.cells #[.int .i64 x.key, .int .i64 x.gen, .int .i64 x.refs, .int .i64 x.next] 45)) := hidS (blk_other (B := w.heap.size) X3.out (by omega) 2 (.int .i64 0))
  have T4 : Hid (Tch tb w ((w3.setCell ⟨w.heap.size, 2, none⟩ (.int .i64 0)))) := hidS (Tch.own T3.out (by omega) 2 (.int .i64 0))
  clear T3 K3 R3 G3 P3 Q3 X3
  generalize (w3.setCell ⟨w.heap.size, 2, none⟩ (.int .i64 0)) = w4 at K4 R4 G4 P4 Q4 X4 T4 ⊢
  go_wp2_with fail
  refine grow_cell 7 _ [isP (.pointer (some ⟨g, 0, none⟩)), isP (.pointer (some ⟨g, 0, none⟩)), isP (.agg #[.slice (some ⟨tb, o2, none⟩) s.slots.length c2, .slice (some ⟨b3, o3, none⟩) s.heads.length c3]), isP (.pointer (some ⟨w.heap.size, 0, none⟩)), isP (.int .i64 key), isP (.int .i64 hd), isP (.pointer (some ⟨w.heap.size, 1, none⟩))] 6 5 74 73 2 30 w.heap.size 1 hd #[.int .i64 key, .int .i64 (N : Int), .int .i64 0, .int .i64 0, .int .i64 0, .int .i64 0, .int .i64 (steps + 1)] rfl rfl rfl (by kernel_rfl) (by kernel_rfl) (by kernel_rfl) ⟨(fun v W W' h _ => h), (fun v W W' h _ => h), (fun v W W' h _ => h), (fun v W W' h _ => h), (fun v W W' h _ => h), (fun v W W' h _ => h), (fun v W W' h _ => h), trivial⟩ (by decide) (by decide) (by decide) rfl rfl rfl rfl K4.out (by simp) (fun v W h => h) (fun v W h => h) (by kernel_rfl) ?steps15 ?fin15
  case steps15 =>
    refine ⟨?_, ?_, ?_, ?_, ?_, ?_, ?_, trivial⟩
    · refine ⟨rfl, fun v W ρ hC kc kf ks ki kd => ?_⟩
      have t0 : ρ (.tmp 0) = .pointer (some ⟨g, 0, none⟩) := ki 0 (by decide)
      simp [execOp, go_sem, kc, t0]
      simp only [RanS]
      first | exact ⟨hC, Below.refl _ _, rfl⟩ | exact ⟨hC, Below.refl _ _, rfl, by first | exact fun _ _ => trivial | exact fun h => absurd h (by decide), by first | exact fun _ _ => trivial | exact fun h => absurd h (by decide)⟩
    · refine ⟨rfl, fun v W ρ hC kc kf ks ki kd => ?_⟩
      have d0 : v 0 = .pointer (some ⟨g, 0, none⟩) := (kdj kd 0 rfl :)
      have t68 : ρ (.tmp 68) = .pointer (some ⟨g, 0, none⟩) := (ks 0 68 (by decide) rfl).trans d0
      simp [execOp, go_sem, kc, t68]
      simp only [RanS]
      first | exact ⟨hC, Below.refl _ _, rfl⟩ | exact ⟨hC, Below.refl _ _, rfl, by first | exact fun _ _ => trivial | exact fun h => absurd h (by decide), by first | exact fun _ _ => trivial | exact fun h => absurd h (by decide)⟩
    · refine ⟨rfl, fun v W ρ hC kc kf ks ki kd => ?_⟩
      have d1 : v 1 = .pointer (some ⟨g, 0, none⟩) := (kdj kd 1 rfl :)
      have t69 : ρ (.tmp 69) = .pointer (some ⟨g, 0, none⟩) := (ks 1 69 (by decide) rfl).trans d1
      have hg := blk_later G4.out hC
      have c0 := blk_cell hg 0
      have c1 := blk_cell hg 1
      simp at c0 c1
      simp [execOp, go_sem, kc, t69, c0, c1]
      simp only [RanS]
      first | exact ⟨hC, Below.refl _ _, rfl⟩ | exact ⟨hC, Below.refl _ _, rfl, by first | exact fun _ _ => trivial | exact fun h => absurd h (by decide), by first | exact fun _ _ => trivial | exact fun h => absurd h (by decide)⟩
    · refine ⟨rfl, fun v W ρ hC kc kf ks ki kd => ?_⟩
      have t3 : ρ (.tmp 3) = .pointer (some ⟨w.heap.size, 0, none⟩) := ki 3 (by decide)
      simp [execOp, go_sem, kc, t3]
      simp only [RanS]
      first | exact ⟨hC, Below.refl _ _, rfl⟩ | exact ⟨hC, Below.refl _ _, rfl, by first | exact fun _ _ => trivial | exact fun h => absurd h (by decide), by first | exact fun _ _ => trivial | exact fun h => absurd h (by decide)⟩
    · refine ⟨rfl, fun v W ρ hC kc kf ks ki kd => ?_⟩
      have d3 : v 3 = .pointer (some ⟨w.heap.size, 0, none⟩) := (kdj kd 3 rfl :)
      have t71 : ρ (.tmp 71) = .pointer (some ⟨w.heap.size, 0, none⟩) := (ks 3 71 (by decide) rfl).trans d3
      have hg := blk_later K4.out hC
      have c0 := blk_cell hg 0
      simp at c0
      simp [execOp, go_sem, kc, t71, c0]
      simp only [RanS]
      first | exact ⟨hC, Below.refl _ _, rfl⟩ | exact ⟨hC, Below.refl _ _, rfl, by first | exact fun _ _ => trivial | exact fun h => absurd h (by decide), by first | exact fun _ _ => trivial | exact fun h => absurd h (by decide)⟩
    · refine ⟨rfl, fun v W ρ hC kc kf ks ki kd => ?_⟩
      have d2 : v 2 = .agg #[.slice (some ⟨tb, o2, none⟩) s.slots.length c2, .slice (some ⟨b3, o3, none⟩) s.heads.length c3] := (kdj kd 2 rfl :)
      have t70 : ρ (.tmp 70) = .agg #[.slice (some ⟨tb, o2, none⟩) s.slots.length c2, .slice (some ⟨b3, o3, none⟩) s.heads.length c3] := (ks 2 70 (by decide) rfl).trans d2
      have d4 : v 4 = .int .i64 key := (kdj kd 4 rfl :)
      have t72 : ρ (.tmp 72) = .int .i64 key := (ks 4 72 (by decide) rfl).trans d4
      simp [execOp, go_sem, t70, t72, kf]
      simp only [RanS]
      first | exact Calls.mono (HH.out W (Q4.out.later hC).read) (fun e x h => ⟨_, h.1, hC.trans (h.2.mono hC.size), h.2, rfl⟩) | exact Calls.mono (HH.out W (Q4.out.later hC).read) (fun e x h => ⟨_, h.1, hC.trans (h.2.mono hC.size), h.2, rfl, by first | exact fun _ _ => trivial | exact fun h => absurd h (by decide), by first | exact fun _ _ => trivial | exact fun h => absurd h (by decide)⟩)
    · refine ⟨rfl, fun v W ρ hC kc kf ks ki kd => ?_⟩
      have t3 : ρ (.tmp 3) = .pointer (some ⟨w.heap.size, 0, none⟩) := ki 3 (by decide)
      simp [execOp, go_sem, kc, t3]
      simp only [RanS]
      first | exact ⟨hC, Below.refl _ _, rfl⟩ | exact ⟨hC, Below.refl _ _, rfl, by first | exact fun _ _ => trivial | exact fun h => absurd h (by decide), by first | exact fun _ _ => trivial | exact fun h => absurd h (by decide)⟩
  intro v15 w5 hb
  simp [upto, Act.put]
  have K5 := hidS (blk_later K4.out hb)
  have R5 := hidS (blk_later R4.out hb)
  have G5 := hidS (blk_later G4.out hb)
  have P5 := hidS (P4.out.later hb)
  have Q5 := hidS (Q4.out.later hb)
  have X5 := hidS (blk_later X4.out hb)
  have T5 := hidS (T4.out.later hb)
  clear T4 hb K4 R4 G4 P4 Q4 X4
  have K6 : Hid ((w5.setCell ⟨w.heap.size, 1, none⟩ (.int .i64 hd)).heap[w.heap.size]? = some (.cells #[.int .i64 key, .int .i64 hd, .int .i64 0, .int .i64 0, .int .i64 0, .int .i64 0, .int .i64 (steps + 1)] 30)) := by
    have := blk_set K5.out 1 (.int .i64 hd)
    exact this
  have R6 : Hid ((w5.setCell ⟨w.heap.size, 1, none⟩ (.int .i64 hd)).heap[w.heap.size + 1]? = some (.cells #[.int .i64 0, .int .i64 0, .int .i64 0, .int .i64 0, .int .i64 0, .int .i64 0, .int .i64 0] 30)) := hidS (blk_other (B := w.heap.size) R5.out (by omega) 1 (.int .i64 hd))
  have G6 : Hid ((w5.setCell ⟨w.heap.size, 1, none⟩ (.int .i64 hd)).heap[g]? = some (.cells #[.slice (some ⟨tb, o2, none⟩) s.slots.length c2, .slice (some ⟨b3, o3, none⟩) s.heads.length c3] 26)) := hidS (blk_other (B := w.heap.size) G5.out (by omega) 1 (.int .i64 hd))
  have P6 : Hid (RowB tb o2 (flat (refS s (N : Int) (x.refs - 1)).slots) ((w5.setCell ⟨w.heap.size, 1, none⟩ (.int .i64 hd)))) := hidS (RowB.other (g := w.heap.size) (k := 1) (v := .int .i64 hd) P5.out (by omega))
  have Q6 : Hid (RowB b3 o3 s.heads ((w5.setCell ⟨w.heap.size, 1, none⟩ (.int .i64 hd)))) := hidS (RowB.other (g := w.heap.size) (k := 1) (v := .int .i64 hd) Q5.out (by omega))
  have X6 : Hid ((w5.setCell ⟨w.heap.size, 1, none⟩ (.int .i64 hd)).heap[gx]? = some (.cells #[.int .i64 x.key, .int .i64 x.gen, .int .i64 x.refs, .int .i64 x.next] 45)) := hidS (blk_other (B := w.heap.size) X5.out (by omega) 1 (.int .i64 hd))
  have T6 : Hid (Tch tb w ((w5.setCell ⟨w.heap.size, 1, none⟩ (.int .i64 hd)))) := hidS (Tch.own T5.out (by omega) 1 (.int .i64 hd))
  clear T5 K5 R5 G5 P5 Q5 X5
  generalize (w5.setCell ⟨w.heap.size, 1, none⟩ (.int .i64 hd)) = w6 at K6 R6 G6 P6 Q6 X6 T6 ⊢
  have k0 := blk_cell K6.out 0
  have k1 := blk_cell K6.out 1
  have k2 := blk_cell K6.out 2
  have k3 := blk_cell K6.out 3
  have k4 := blk_cell K6.out 4
  have k5 := blk_cell K6.out 5
  have k6 := blk_cell K6.out 6
  simp at k0 k1 k2 k3 k4 k5 k6
  have kR := blk_cell R6.out
  have fR := blk_free R6.out
  have hP := P6
  have hT := T6
  go_wp2_with fail
  refine bodyPost_ret (v := .agg #[.int .i64 key, .int .i64 hd, .int .i64 0, .int .i64 0, .int .i64 0, .int .i64 0, .int .i64 (steps + 1)]) (by simp [results, Try.results60, go_sem, *]) rfl ⟨rfl, ?_, ?_⟩
  · repeat (refine RowB.other ?_ (by omega))
    exact hP.out
  · repeat (refine Tch.own ?_ (by omega) _ _)
    exact hT.out
/-- .. whatever it is -/
theorem l07Step_any (g tb o2 c2 b3 o3 c3 : Nat) (s : Slb) (k : Wlk) (w : World) (hr : rightSl s = true) (hw : wkR s k = true) (hgo : goB k = true) (hG : w.heap[g]? = some (.cells #[.slice (some ⟨tb, o2, none⟩) s.slots.length c2, .slice (some ⟨b3, o3, none⟩) s.heads.length c3] 26)) (P : RowB tb o2 (flat s.slots) w) (Q : RowB b3 o3 s.heads w) (n1 : tb ≠ b3) (n2 : tb ≠ g) :
    Calls Try.prog 60 #[.pointer (some ⟨g, 0, none⟩), .agg #[.int .i64 k.key, .int .i64 k.cur, .int .i64 k.stage, .int .i64 k.state, .int .i64 k.slot, .int .i64 k.gen, .int .i64 k.steps]] w fun e w' => e = .returned (.agg #[.int .i64 (stepP s k).2.key, .int .i64 (stepP s k).2.cur, .int .i64 (stepP s k).2.stage, .int .i64 (stepP s k).2.state, .int .i64 (stepP s k).2.slot, .int .i64 (stepP s k).2.gen, .int .i64 (stepP s k).2.steps]) ∧ RowB tb o2 (flat (stepP s k).1.slots) w' ∧ Tch tb w w' := by
  obtain ⟨hk, hp, ho, ht⟩ := wk_parts.1 hw
  obtain ⟨hs0, hs1⟩ : k.state = 0 ∧ k.steps < 1000000 := by unfold goB at hgo; simpa using hgo
  obtain ⟨hz1, hz2⟩ := out_zero ho hs0
  obtain ⟨pc1, pc2, pc3, pc4⟩ := place_cur hp
  have sz := (rt_sizes (rt_of hr).sz).2.2.2
  obtain ⟨key, cur, stage, state, slot, gen, steps⟩ := k
  simp only at hk hp ho ht hs0 hs1 hz1 hz2 pc1 pc2 pc3 pc4
  subst hs0
  subst hz1
  subst hz2
  by_cases hc : cur < 0
  · obtain ⟨e0, e1⟩ := pc1 hc
    subst e0
    by_cases he : -1 - cur = key.tmod s.heads.length
    · have E : stepP s ⟨key, cur, 0, 0, 0, 0, steps⟩ = (s, ⟨key, cur, 0, 2, 0, 0, steps + 1⟩) := by unfold stepP; rw [if_pos hc, if_pos he]
      rw [E]
      exact l07Step_end g tb o2 c2 b3 o3 c3 s key cur steps w hr hk.1 ht.1 hs1 hG P Q n1 n2 hc (by omega) he
    · have E : stepP s ⟨key, cur, 0, 0, 0, 0, steps⟩ = (s, ⟨key, hdK s key, 0, 0, 0, 0, steps + 1⟩) := by unfold stepP; rw [if_pos hc, if_neg he]
      rw [E]
      exact l07Step_other g tb o2 c2 b3 o3 c3 s key cur steps w hr hk.1 ht.1 hs1 hG P Q n1 n2 hc (by omega) he
  · obtain ⟨N, rfl⟩ : ∃ N : Nat, cur = (N : Int) := ⟨cur.toNat, by omega⟩
    have hN : N < s.slots.length := by have := pc2 (by omega); omega
    obtain ⟨x, hx⟩ : ∃ x, s.slots.getD N zeroSlt = x := ⟨_, rfl⟩
    have EX : slotN s (N : Int) = x := by rw [slot_nat]; exact hx
    by_cases h0 : stage = 0
    · subst h0
      by_cases hq : x.key = key
      · have E : stepP s ⟨key, N, 0, 0, 0, 0, steps⟩ = (s, ⟨key, N, 1, 0, 0, 0, steps + 1⟩) := by unfold stepP; rw [if_neg hc, if_pos rfl, EX, if_pos hq]
        rw [E]
        exact l07Step_hit g tb o2 c2 b3 o3 c3 s key steps N x w hr hk.1 ht.1 hs1 hG P Q n1 n2 hN hx hq
      · have E : stepP s ⟨key, N, 0, 0, 0, 0, steps⟩ = (s, ⟨key, x.next, 0, 0, 0, 0, steps + 1⟩) := by unfold stepP; rw [if_neg hc, if_pos rfl, EX, if_neg hq]
        rw [E]
        exact l07Step_miss g tb o2 c2 b3 o3 c3 s key steps N x w hr hk.1 ht.1 hs1 hG P Q n1 n2 hN hx hq
    · by_cases h1 : stage = 1
      · subst h1
        by_cases hq : x.refs = 0
        · have E : stepP s ⟨key, N, 1, 0, 0, 0, steps⟩ = (s, ⟨key, hdK s key, 0, 0, 0, 0, steps + 1⟩) := by unfold stepP; rw [if_neg hc, if_neg h0, if_pos rfl, EX, if_pos (.inl hq)]
          rw [E]
          exact l07Step_free g tb o2 c2 b3 o3 c3 s key steps N x w hr hk.1 ht.1 hs1 hG P Q n1 n2 hN hx hq
        · by_cases hf : 1000000 ≤ x.refs
          · have E : stepP s ⟨key, N, 1, 0, 0, 0, steps⟩ = (s, ⟨key, hdK s key, 0, 0, 0, 0, steps + 1⟩) := by unfold stepP; rw [if_neg hc, if_neg h0, if_pos rfl, EX, if_pos (.inr hf)]
            rw [E]
            exact l07Step_full g tb o2 c2 b3 o3 c3 s key steps N x w hr hk.1 ht.1 hs1 hG P Q n1 n2 hN hx hf
          · have E : stepP s ⟨key, N, 1, 0, 0, 0, steps⟩ = (refS s (N : Int) (x.refs + 1), ⟨key, N, 2, 0, 0, 0, steps + 1⟩) := by unfold stepP; rw [if_neg hc, if_neg h0, if_pos rfl, EX, if_neg (by omega)]
            rw [E]
            exact l07Step_get g tb o2 c2 b3 o3 c3 s key steps N x w hr hk.1 ht.1 hs1 hG P Q n1 n2 hN hx hq hf
      · have h2 : stage = 2 := by omega
        subst h2
        by_cases hq : x.key = key
        · have E : stepP s ⟨key, N, 2, 0, 0, 0, steps⟩ = (s, ⟨key, N, 2, 1, N, x.gen, steps + 1⟩) := by unfold stepP; rw [if_neg hc, if_neg h0, if_neg h1, EX, if_pos hq]
          rw [E]
          exact l07Step_found g tb o2 c2 b3 o3 c3 s key steps N x w hr hk.1 ht.1 hs1 hG P Q n1 n2 hN hx hq
        · have E : stepP s ⟨key, N, 2, 0, 0, 0, steps⟩ = (refS s (N : Int) (x.refs - 1), ⟨key, hdK s key, 0, 0, 0, 0, steps + 1⟩) := by unfold stepP; rw [if_neg hc, if_neg h0, if_neg h1, EX, if_neg hq]
          rw [E]
          exact l07Step_loose g tb o2 c2 b3 o3 c3 s key steps N x w hr hk.1 ht.1 hs1 hG P Q n1 n2 hN hx hq
end Go.Proofs.Ytfjgofmjhccdkaa
