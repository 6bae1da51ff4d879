/- Proved here: laws.FnExactTupleLess returns true at every argument, and each argument reads afterwards as before (no conditions). -/
import Derived.Test.YtokjhfgbnpdfnahOpenTuple
import Derived.Test.YtokjhfgbnpdfnahLawsTp
import Derived.Test.YtokjhfgbnpdfnahLessSpec
import Derived.Test.YtokjhfgbnpdfnahLessI
import Derived.Deep.Cut
import Derived.WalkKit
import Derived.WalkSpells
import Derived.ProofKit
import Derived.OpenShut
import Derived.ShutString
import Derived.Handy
import Derived.Below
namespace Go.Proofs.Ytokjhfgbnpdfnah
open Go.ChangeShapes Go.WideShapes Go.ChangeAt Go.RowKit
open Go.ChangeMaps (open_string shut_string)
set_option linter.unusedVariables false

set_option maxHeartbeats 2000000 in
theorem tupleLessLaw_all (t : Tp) (u : Tp) (w : World) :
    Calls Try.prog 3 #[.agg #[.int .i64 t.proto, .int .i64 t.src, .int .i64 t.sport, .int .i64 t.dst, .int .i64 t.dport, .int .i64 t.kind], .agg #[.int .i64 u.proto, .int .i64 u.src, .int .i64 u.sport, .int .i64 u.dst, .int .i64 u.dport, .int .i64 u.kind]] w fun e w' => e = .returned (.bool true) ∧ Below w.heap.size w w' := by
  have hTT := hidS (fun W => toTuple_any t W)
  have hTU := hidS (fun W => toTuple_any u W)
  have hSR := hidS (fun W => specLess_any t u W)
  have hIR := hidS (fun W => implLess_any t u W)
  generalize lessAns t u = a at *
  have hGT0 : Hid (((w.alloc (.cells #[.int .i64 t.proto, .int .i64 t.src, .int .i64 t.sport, .int .i64 t.dst, .int .i64 t.dport, .int .i64 t.kind] 23)).alloc (.cells #[.int .i64 u.proto, .int .i64 u.src, .int .i64 u.sport, .int .i64 u.dst, .int .i64 u.dport, .int .i64 u.kind] 23)).heap[w.heap.size]? = some (.cells #[.int .i64 t.proto, .int .i64 t.src, .int .i64 t.sport, .int .i64 t.dst, .int .i64 t.dport, .int .i64 t.kind] 23)) := by
    show _ = _
    have := blk_alloc (heap_newG w (.cells #[.int .i64 t.proto, .int .i64 t.src, .int .i64 t.sport, .int .i64 t.dst, .int .i64 t.dport, .int .i64 t.kind] 23)) (.cells #[.int .i64 u.proto, .int .i64 u.src, .int .i64 u.sport, .int .i64 u.dst, .int .i64 u.dport, .int .i64 u.kind] 23)
    simpa using this
  have hGU0 : Hid (((w.alloc (.cells #[.int .i64 t.proto, .int .i64 t.src, .int .i64 t.sport, .int .i64 t.dst, .int .i64 t.dport, .int .i64 t.kind] 23)).alloc (.cells #[.int .i64 u.proto, .int .i64 u.src, .int .i64 u.sport, .int .i64 u.dst, .int .i64 u.dport, .int .i64 u.kind] 23)).heap[w.heap.size + 1]? = some (.cells #[.int .i64 u.proto, .int .i64 u.src, .int .i64 u.sport, .int .i64 u.dst, .int .i64 u.dport, .int .i64 u.kind] 23)) := by
    show _ = _
    have := heap_newG (w.alloc (.cells #[.int .i64 t.proto, .int .i64 t.src, .int .i64 t.sport, .int .i64 t.dst, .int .i64 t.dport, .int .i64 t.kind] 23)) (.cells #[.int .i64 u.proto, .int .i64 u.src, .int .i64 u.sport, .int .i64 u.dst, .int .i64 u.dport, .int .i64 u.kind] 23)
    simpa using this
  have hL0 := hidS (((Below.refl w.heap.size w).alloc (Nat.le_refl _) (.cells #[.int .i64 t.proto, .int .i64 t.src, .int .i64 t.sport, .int .i64 t.dst, .int .i64 t.dport, .int .i64 t.kind] 23)).alloc (by simp) (.cells #[.int .i64 u.proto, .int .i64 u.src, .int .i64 u.sport, .int .i64 u.dst, .int .i64 u.dport, .int .i64 u.kind] 23))
  go_enter Try.func3, Try.ntmps3
  go_wp2_with fail
  generalize ((w.alloc (.cells #[.int .i64 t.proto, .int .i64 t.src, .int .i64 t.sport, .int .i64 t.dst, .int .i64 t.dport, .int .i64 t.kind] 23)).alloc (.cells #[.int .i64 u.proto, .int .i64 u.src, .int .i64 u.sport, .int .i64 u.dst, .int .i64 u.dport, .int .i64 u.kind] 23)) = w0 at hGT0 hGU0 hL0 ⊢
  refine grow_kinds 6 [.is (.agg #[.int .i64 t.proto, .int .i64 t.src, .int .i64 t.sport, .int .i64 t.dst, .int .i64 t.dport, .int .i64 t.kind]), .is (.agg #[.int .i64 t.proto, .int .i64 t.src, .int .i64 t.sport, .int .i64 t.dst, .int .i64 t.dport, .int .i64 t.kind]), .is (.agg #[.int .i64 u.proto, .int .i64 u.src, .int .i64 u.sport, .int .i64 u.dst, .int .i64 u.dport, .int .i64 u.kind]), .is (.agg #[.int .i64 u.proto, .int .i64 u.src, .int .i64 u.sport, .int .i64 u.dst, .int .i64 u.dport, .int .i64 u.kind]), .is (.bool a), .is (.bool a)] rfl (by kernel_rfl) (by kernel_rfl) ?stepsW ?finW
  case stepsW =>
    refine ⟨?_, ?_, ?_, ?_, ?_, ?_, trivial⟩
    · refine ⟨rfl, fun v W ρ hC kc kf ks ki kd => ?_⟩
      have t2 : ρ (.tmp 2) = .pointer (some ⟨w.heap.size, 0, none⟩) := ki 2 (by decide)
      have hg := blk_later hGT0.out hC
      have c0 := blk_cell hg 0
      have c1 := blk_cell hg 1
      have c2 := blk_cell hg 2
      have c3 := blk_cell hg 3
      have c4 := blk_cell hg 4
      have c5 := blk_cell hg 5
      simp at c0 c1 c2 c3 c4 c5
      simp [execOp, go_sem, t2, c0, c1, c2, c3, c4, c5]
      exact ⟨hC, Below.refl _ _, rfl⟩
    · refine ⟨rfl, fun v W ρ hC kc kf ks ki kd => ?_⟩
      have d0 : v 0 = .agg #[.int .i64 t.proto, .int .i64 t.src, .int .i64 t.sport, .int .i64 t.dst, .int .i64 t.dport, .int .i64 t.kind] := kd _ (Array.mem_of_getElem? (i := 0) rfl) rfl
      have t7 : ρ (.tmp 7) = v 0 := ks 0 7 (by decide) rfl
      rw [d0] at t7
      simp [execOp, go_sem, t7, kf]
      exact Calls.mono (hTT.out _) (fun e x h => ⟨_, h.1, hC.trans (h.2.mono hC.size), h.2, rfl⟩)
    · refine ⟨rfl, fun v W ρ hC kc kf ks ki kd => ?_⟩
      have t3 : ρ (.tmp 3) = .pointer (some ⟨w.heap.size + 1, 0, none⟩) := ki 3 (by decide)
      have hg := blk_later hGU0.out hC
      have c0 := blk_cell hg 0
      have c1 := blk_cell hg 1
      have c2 := blk_cell hg 2
      have c3 := blk_cell hg 3
      have c4 := blk_cell hg 4
      have c5 := blk_cell hg 5
      simp at c0 c1 c2 c3 c4 c5
      simp [execOp, go_sem, t3, c0, c1, c2, c3, c4, c5]
      exact ⟨hC, Below.refl _ _, rfl⟩
    · refine ⟨rfl, fun v W ρ hC kc kf ks ki kd => ?_⟩
      have d2 : v 2 = .agg #[.int .i64 u.proto, .int .i64 u.src, .int .i64 u.sport, .int .i64 u.dst, .int .i64 u.dport, .int .i64 u.kind] := kd _ (Array.mem_of_getElem? (i := 0) rfl) rfl
      have t9 : ρ (.tmp 9) = v 2 := ks 2 9 (by decide) rfl
      rw [d2] at t9
      simp [execOp, go_sem, t9, kf]
      exact Calls.mono (hTU.out _) (fun e x h => ⟨_, h.1, hC.trans (h.2.mono hC.size), h.2, rfl⟩)
    · refine ⟨rfl, fun v W ρ hC kc kf ks ki kd => ?_⟩
      have d1 : v 1 = .agg #[.int .i64 t.proto, .int .i64 t.src, .int .i64 t.sport, .int .i64 t.dst, .int .i64 t.dport, .int .i64 t.kind] := kd _ (Array.mem_of_getElem? (i := 0) rfl) rfl
      have t8 : ρ (.tmp 8) = v 1 := ks 1 8 (by decide) rfl
      rw [d1] at t8
      have d3 : v 3 = .agg #[.int .i64 u.proto, .int .i64 u.src, .int .i64 u.sport, .int .i64 u.dst, .int .i64 u.dport, .int .i64 u.kind] := kd _ (Array.mem_of_getElem? (i := 1) rfl) rfl
      have t10 : ρ (.tmp 10) = v 3 := ks 3 10 (by decide) rfl
      rw [d3] at t10
      simp [execOp, go_sem, t8, t10, kf]
      exact Calls.mono (hSR.out _) (fun e x h => ⟨_, h.1, hC.trans (h.2.mono hC.size), h.2, rfl⟩)
    · refine ⟨rfl, fun v W ρ hC kc kf ks ki kd => ?_⟩
      have d4 : v 4 = .bool a := kd _ (Array.mem_of_getElem? (i := 0) rfl) rfl
      have t11 : ρ (.tmp 11) = v 4 := ks 4 11 (by decide) rfl
      rw [d4] at t11
      simp [execOp, go_sem, t11]
      exact ⟨hC, Below.refl _ _, rfl⟩
  intro vW w1 hb1 hall
  have hvW : vW 5 = .bool a := hall 5 (by decide)
  simp [upto, Act.put]
  rw [hvW]
  clear hall hvW
  have hGT1 := hidS (blk_later hGT0.out hb1)
  have hGU1 := hidS (blk_later hGU0.out hb1)
  have hL1 := hidS (hL0.out.trans (hb1.mono hL0.out.size))
  clear hb1 hL0 hGT0 hGU0
  go_wp2_with fail
  refine grow_kinds 6 [.is (.agg #[.int .i64 t.proto, .int .i64 t.src, .int .i64 t.sport, .int .i64 t.dst, .int .i64 t.dport, .int .i64 t.kind]), .is (.agg #[.int .i64 t.proto, .int .i64 t.src, .int .i64 t.sport, .int .i64 t.dst, .int .i64 t.dport, .int .i64 t.kind]), .is (.agg #[.int .i64 u.proto, .int .i64 u.src, .int .i64 u.sport, .int .i64 u.dst, .int .i64 u.dport, .int .i64 u.kind]), .is (.agg #[.int .i64 u.proto, .int .i64 u.src, .int .i64 u.sport, .int .i64 u.dst, .int .i64 u.dport, .int .i64 u.kind]), .is (.bool a), .is (.bool a)] rfl (by kernel_rfl) (by kernel_rfl) ?stepsG ?finG
  case stepsG =>
    refine ⟨?_, ?_, ?_, ?_, ?_, ?_, trivial⟩
    · refine ⟨rfl, fun v W ρ hC kc kf ks ki kd => ?_⟩
      have t2 : ρ (.tmp 2) = .pointer (some ⟨w.heap.size, 0, none⟩) := ki 2 (by decide)
      have hg := blk_later hGT1.out hC
      have c0 := blk_cell hg 0
      have c1 := blk_cell hg 1
      have c2 := blk_cell hg 2
      have c3 := blk_cell hg 3
      have c4 := blk_cell hg 4
      have c5 := blk_cell hg 5
      simp at c0 c1 c2 c3 c4 c5
      simp [execOp, go_sem, t2, c0, c1, c2, c3, c4, c5]
      exact ⟨hC, Below.refl _ _, rfl⟩
    · refine ⟨rfl, fun v W ρ hC kc kf ks ki kd => ?_⟩
      have d0 : v 0 = .agg #[.int .i64 t.proto, .int .i64 t.src, .int .i64 t.sport, .int .i64 t.dst, .int .i64 t.dport, .int .i64 t.kind] := kd _ (Array.mem_of_getElem? (i := 0) rfl) rfl
      have t12 : ρ (.tmp 12) = v 0 := ks 0 12 (by decide) rfl
      rw [d0] at t12
      simp [execOp, go_sem, t12, kf]
      exact Calls.mono (hTT.out _) (fun e x h => ⟨_, h.1, hC.trans (h.2.mono hC.size), h.2, rfl⟩)
    · refine ⟨rfl, fun v W ρ hC kc kf ks ki kd => ?_⟩
      have t3 : ρ (.tmp 3) = .pointer (some ⟨w.heap.size + 1, 0, none⟩) := ki 3 (by decide)
      have hg := blk_later hGU1.out hC
      have c0 := blk_cell hg 0
      have c1 := blk_cell hg 1
      have c2 := blk_cell hg 2
      have c3 := blk_cell hg 3
      have c4 := blk_cell hg 4
      have c5 := blk_cell hg 5
      simp at c0 c1 c2 c3 c4 c5
      simp [execOp, go_sem, t3, c0, c1, c2, c3, c4, c5]
      exact ⟨hC, Below.refl _ _, rfl⟩
    · refine ⟨rfl, fun v W ρ hC kc kf ks ki kd => ?_⟩
      have d2 : v 2 = .agg #[.int .i64 u.proto, .int .i64 u.src, .int .i64 u.sport, .int .i64 u.dst, .int .i64 u.dport, .int .i64 u.kind] := kd _ (Array.mem_of_getElem? (i := 0) rfl) rfl
      have t14 : ρ (.tmp 14) = v 2 := ks 2 14 (by decide) rfl
      rw [d2] at t14
      simp [execOp, go_sem, t14, kf]
      exact Calls.mono (hTU.out _) (fun e x h => ⟨_, h.1, hC.trans (h.2.mono hC.size), h.2, rfl⟩)
    · refine ⟨rfl, fun v W ρ hC kc kf ks ki kd => ?_⟩
      have d1 : v 1 = .agg #[.int .i64 t.proto, .int .i64 t.src, .int .i64 t.sport, .int .i64 t.dst, .int .i64 t.dport, .int .i64 t.kind] := kd _ (Array.mem_of_getElem? (i := 0) rfl) rfl
      have t13 : ρ (.tmp 13) = v 1 := ks 1 13 (by decide) rfl
      rw [d1] at t13
      have d3 : v 3 = .agg #[.int .i64 u.proto, .int .i64 u.src, .int .i64 u.sport, .int .i64 u.dst, .int .i64 u.dport, .int .i64 u.kind] := kd _ (Array.mem_of_getElem? (i := 1) rfl) rfl
      have t15 : ρ (.tmp 15) = v 3 := ks 3 15 (by decide) rfl
      rw [d3] at t15
      simp [execOp, go_sem, t13, t15, kf]
      exact Calls.mono (hIR.out _) (fun e x h => ⟨_, h.1, hC.trans (h.2.mono hC.size), h.2, rfl⟩)
    · refine ⟨rfl, fun v W ρ hC kc kf ks ki kd => ?_⟩
      have d4 : v 4 = .bool a := kd _ (Array.mem_of_getElem? (i := 0) rfl) rfl
      have t16 : ρ (.tmp 16) = v 4 := ks 4 16 (by decide) rfl
      rw [d4] at t16
      simp [execOp, go_sem, t16]
      exact ⟨hC, Below.refl _ _, rfl⟩
  intro vG w2 hb2 hall
  have hvG : vG 5 = .bool a := hall 5 (by decide)
  simp [upto, Act.put]
  rw [hvG]
  clear hall hvG
  have hGT2 := hidS (blk_later hGT1.out hb2)
  have hGU2 := hidS (blk_later hGU1.out hb2)
  have hL2 := hidS (hL1.out.trans (hb2.mono hL1.out.size))
  clear hb2 hL1 hGT1 hGU1
  go_wp2_with fail
  go_ret
  exact ⟨rfl, hL2.out⟩

theorem tupleLessLaw_walk (f0_0 f0_1 f0_2 f0_3 f0_4 f0_5 : Int) (f1_0 f1_1 f1_2 f1_3 f1_4 f1_5 : Int) (g0_0 : (Lit.int .i64 f0_0).wf = true) (g0_1 : (Lit.int .i64 f0_1).wf = true) (g0_2 : (Lit.int .i64 f0_2).wf = true) (g0_3 : (Lit.int .i64 f0_3).wf = true) (g0_4 : (Lit.int .i64 f0_4).wf = true) (g0_5 : (Lit.int .i64 f0_5).wf = true) (g1_0 : (Lit.int .i64 f1_0).wf = true) (g1_1 : (Lit.int .i64 f1_1).wf = true) (g1_2 : (Lit.int .i64 f1_2).wf = true) (g1_3 : (Lit.int .i64 f1_3).wf = true) (g1_4 : (Lit.int .i64 f1_4).wf = true) (g1_5 : (Lit.int .i64 f1_5).wf = true) (w : World) :
    Calls Try.prog 3 #[.agg #[.int .i64 f0_0, .int .i64 f0_1, .int .i64 f0_2, .int .i64 f0_3, .int .i64 f0_4, .int .i64 f0_5], .agg #[.int .i64 f1_0, .int .i64 f1_1, .int .i64 f1_2, .int .i64 f1_3, .int .i64 f1_4, .int .i64 f1_5]] w fun e w' => e = .returned (.bool true) ∧ Below w.heap.size w w' :=
  tupleLessLaw_all ⟨f0_0, f0_1, f0_2, f0_3, f0_4, f0_5⟩ ⟨f1_0, f1_1, f1_2, f1_3, f1_4, f1_5⟩ w

theorem laidOut_fnExactTupleLess : laidOutB Try.prog = true := by kernel_rfl
theorem own_fnExactTupleLess : ownKnob Try.prog.godebug = none := by kernel_rfl
set_option maxRecDepth 100000 in
theorem lifted_fnExactTupleLess (os : Os) (started : os.Started) (H : Type) (enc : TypeId × Value → H) :
    ReturnsInHanded {} Try.checked os 3 .any (Rows.fnExactTupleLessSpec.pre6 enc Try.prog Try.f3 Rows.fnExactTupleLessRow.domain false) (Rows.fnExactTupleLessSpec.post enc Try.prog Try.f3 false true false false) := by
  refine returnsInHanded_of_change (C := Try.checked) own_fnExactTupleLess started (by kernel_rfl) Try.func3
    (ChangeSpec.witness6 (enc := enc) (C := Try.checked) false ⟨#[], #[.agg #[.int .i64 0, .int .i64 0, .int .i64 0, .int .i64 0, .int .i64 0, .int .i64 0], .agg #[.int .i64 0, .int .i64 0, .int .i64 0, .int .i64 0, .int .i64 0, .int .i64 0]], []⟩ 8 (by kernel_rfl) (by kernel_rfl) (by kernel_rfl) (by kernel_rfl)) ?_
  intro W base args ds gs before hval0 hW hcnd _
  have hval : ∀ (j : Nat) t v, Try.f3.params[j]? = some t → args[j]? = some v → Value.okWide Try.prog W .any base t v := hval0
  have hW' := hW
  obtain ⟨p, q, hA0, hV, rfl, hfz, hnd⟩ := hW
  have hA : DataW.TrodAll enc Try.prog W 0 (fun _ => true) true Try.f3.params.toList args.toList ds p := hA0
  rw [Try.params3] at hA hval
  obtain ⟨v0, vs0, d0, ds0, p0, q0, hargs, rfl, rfl, h0, r0⟩ := trodAll_cons hA
  obtain ⟨v1, vs1, d1, ds1, p1, q1, rfl, rfl, rfl, h1, r1⟩ := trodAll_cons r0
  obtain ⟨rfl, rfl, rfl⟩ := trodAll_nil r1
  obtain rfl : args = #[v0, v1] := by cases args; simp_all
  obtain ⟨rfl, rfl⟩ := trodVars_none hV
  have k0 := h0
  have lt0 : ∀ x ∈ p0, x.block < W.heap.size := by obtain ⟨m, hm⟩ := k0; exact DataW.trod_lt m _ _ _ hm
  obtain ⟨f0_0, f0_1, f0_2, f0_3, f0_4, f0_5, rfl, g0_0, g0_1, g0_2, g0_3, g0_4, g0_5⟩ := open_tuple (hval 0 23 v0 rfl rfl) h0
  have k1 := h1
  have lt1 : ∀ x ∈ p1, x.block < W.heap.size := by obtain ⟨m, hm⟩ := k1; exact DataW.trod_lt m _ _ _ hm
  obtain ⟨f1_0, f1_1, f1_2, f1_3, f1_4, f1_5, rfl, g1_0, g1_1, g1_2, g1_3, g1_4, g1_5⟩ := open_tuple (hval 1 23 v1 rfl rfl) h1
  clear hA0 hval0
  refine (tupleLessLaw_walk f0_0 f0_1 f0_2 f0_3 f0_4 f0_5 f1_0 f1_1 f1_2 f1_3 f1_4 f1_5 g0_0 g0_1 g0_2 g0_3 g0_4 g0_5 g1_0 g1_1 g1_2 g1_3 g1_4 g1_5 W).mono fun e W' ⟨he, bel⟩ => ?_
  subst he
  exact ⟨_, rfl, _, _, _, [], _, [], hW', trodAll_mk1 (shut_bool Try.underlying4 _), (trodAll_cons_mk (Below.trod laidOut_fnExactTupleLess (by kernel_rfl) (of_decide_eq_true (by kernel_rfl)) k0 bel lt0) (trodAll_cons_mk (Below.trod laidOut_fnExactTupleLess (by kernel_rfl) (of_decide_eq_true (by kernel_rfl)) k1 bel lt1) trodAll_mk0)), rfl, bel.frame _, fun h => by cases h⟩

theorem tupleLess_holds : Rows.FnExactTupleLessSaid :=
  OpenClaim.holds_of_wide 3 Try.f3 rfl rfl rfl rfl rfl rfl rfl ⟨rfl, rfl, rfl, rfl, rfl⟩ rfl rfl rfl rfl rfl (by kernel_rfl) Try.func3 (by kernel_rfl)
    (of_decide_eq_true (by kernel_rfl)) (by unfold Func.isWrapper; first | (rw [if_pos (by decide +kernel)]; kernel_rfl) | (rw [if_neg (by decide +kernel)]; exact ⟨rfl, rfl⟩))
    (fun os started H enc _ => lifted_fnExactTupleLess os started H enc)
#print axioms tupleLess_holds
end Go.Proofs.Ytokjhfgbnpdfnah
