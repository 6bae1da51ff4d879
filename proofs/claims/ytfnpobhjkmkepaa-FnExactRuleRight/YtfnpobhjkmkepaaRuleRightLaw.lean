/- Proved here: laws.FnExactRuleRight returns true at every argument, and each argument reads afterwards as before (no conditions). -/
import Derived.Test.YtfnpobhjkmkepaaOpenRule
import Derived.Test.YtfnpobhjkmkepaaLawsRl
import Derived.Test.YtfnpobhjkmkepaaRuleS
import Derived.Test.YtfnpobhjkmkepaaRuleI
import Derived.WalkKit
import Derived.WalkSpells
import Derived.ProofKit
import Derived.OpenShut
import Derived.ShutString
import Derived.Handy
import Derived.Below
namespace Go.Proofs.Ytfnpobhjkmkepaa
open Go.ChangeShapes Go.WideShapes Go.ChangeAt Go.RowKit
open Go.ChangeMaps (open_string shut_string)
set_option linter.unusedVariables false

set_option maxHeartbeats 2000000 in
theorem ruleRightLaw_all (r : Rl) (w : World) :
    Calls Try.prog 3 #[.agg #[.int .i64 r.kind, .int .i64 r.proto, .int .i64 r.net, .int .i64 r.bits, .int .i64 r.goal, .int .i64 r.low, .int .i64 r.high]] w fun e w' => e = .returned (.bool true) ∧ Below w.heap.size w w' := by
  have hTR := hidS (fun W => toRule_any r W)
  have hSR := hidS (fun W => specRR_any r W)
  have hIR := hidS (fun W => implRR_any r W)
  generalize rightR r = a at *
  have hGR0 : Hid ((w.alloc (.cells #[.int .i64 r.kind, .int .i64 r.proto, .int .i64 r.net, .int .i64 r.bits, .int .i64 r.goal, .int .i64 r.low, .int .i64 r.high] 23)).heap[w.heap.size]? = some (.cells #[.int .i64 r.kind, .int .i64 r.proto, .int .i64 r.net, .int .i64 r.bits, .int .i64 r.goal, .int .i64 r.low, .int .i64 r.high] 23)) := by
    show _ = _
    have := heap_newG w (.cells #[.int .i64 r.kind, .int .i64 r.proto, .int .i64 r.net, .int .i64 r.bits, .int .i64 r.goal, .int .i64 r.low, .int .i64 r.high] 23)
    simpa using this
  have hL0 := hidS ((Below.refl w.heap.size w).alloc (Nat.le_refl _) (.cells #[.int .i64 r.kind, .int .i64 r.proto, .int .i64 r.net, .int .i64 r.bits, .int .i64 r.goal, .int .i64 r.low, .int .i64 r.high] 23))
  go_enter Try.func3, Try.ntmps3
  go_wp2_with fail
  refine (hTR.out _).mono ?_
  rintro _ w1 ⟨rfl, hb1⟩
  have hGR1 := hidS (blk_later hGR0.out hb1)
  have hL1 := hidS (hL0.out.trans (hb1.mono hL0.out.size))
  clear hb1 hL0 hGR0
  have cR0 := blk_cell hGR1.out 0
  have cR1 := blk_cell hGR1.out 1
  have cR2 := blk_cell hGR1.out 2
  have cR3 := blk_cell hGR1.out 3
  have cR4 := blk_cell hGR1.out 4
  have cR5 := blk_cell hGR1.out 5
  have cR6 := blk_cell hGR1.out 6
  simp at cR0 cR1 cR2 cR3 cR4 cR5 cR6
  go_wp2_with fail
  refine (hSR.out _).mono ?_
  rintro _ w2 ⟨rfl, hb2⟩
  clear cR0 cR1 cR2 cR3 cR4 cR5 cR6
  have hGR2 := hidS (blk_later hGR1.out hb2)
  have hL2 := hidS (hL1.out.trans (hb2.mono hL1.out.size))
  clear hb2 hL1 hGR1
  have cR0 := blk_cell hGR2.out 0
  have cR1 := blk_cell hGR2.out 1
  have cR2 := blk_cell hGR2.out 2
  have cR3 := blk_cell hGR2.out 3
  have cR4 := blk_cell hGR2.out 4
  have cR5 := blk_cell hGR2.out 5
  have cR6 := blk_cell hGR2.out 6
  simp at cR0 cR1 cR2 cR3 cR4 cR5 cR6
  go_wp2_with fail
  refine (hTR.out _).mono ?_
  rintro _ w3 ⟨rfl, hb3⟩
  clear cR0 cR1 cR2 cR3 cR4 cR5 cR6
  have hGR3 := hidS (blk_later hGR2.out hb3)
  have hL3 := hidS (hL2.out.trans (hb3.mono hL2.out.size))
  clear hb3 hL2 hGR2
  have cR0 := blk_cell hGR3.out 0
  have cR1 := blk_cell hGR3.out 1
  have cR2 := blk_cell hGR3.out 2
  have cR3 := blk_cell hGR3.out 3
  have cR4 := blk_cell hGR3.out 4
  have cR5 := blk_cell hGR3.out 5
  have cR6 := blk_cell hGR3.out 6
  simp at cR0 cR1 cR2 cR3 cR4 cR5 cR6
  go_wp2_with fail
  refine (hIR.out _).mono ?_
  rintro _ w4 ⟨rfl, hb4⟩
  clear cR0 cR1 cR2 cR3 cR4 cR5 cR6
  have hGR4 := hidS (blk_later hGR3.out hb4)
  have hL4 := hidS (hL3.out.trans (hb4.mono hL3.out.size))
  clear hb4 hL3 hGR3
  go_wp2_with fail
  go_ret
  exact ⟨rfl, hL4.out⟩

theorem ruleRightLaw_walk (f0_0 f0_1 f0_2 f0_3 f0_4 f0_5 f0_6 : Int) (g0_0 : (Lit.int .i64 f0_0).wf = true) (g0_1 : (Lit.int .i64 f0_1).wf = true) (g0_2 : (Lit.int .i64 f0_2).wf = true) (g0_3 : (Lit.int .i64 f0_3).wf = true) (g0_4 : (Lit.int .i64 f0_4).wf = true) (g0_5 : (Lit.int .i64 f0_5).wf = true) (g0_6 : (Lit.int .i64 f0_6).wf = true) (w : World) :
    Calls Try.prog 3 #[.agg #[.int .i64 f0_0, .int .i64 f0_1, .int .i64 f0_2, .int .i64 f0_3, .int .i64 f0_4, .int .i64 f0_5, .int .i64 f0_6]] w fun e w' => e = .returned (.bool true) ∧ Below w.heap.size w w' :=
  ruleRightLaw_all ⟨f0_0, f0_1, f0_2, f0_3, f0_4, f0_5, f0_6⟩ w

theorem laidOut_fnExactRuleRight : laidOutB Try.prog = true := by kernel_rfl
theorem own_fnExactRuleRight : ownKnob Try.prog.godebug = none := by kernel_rfl
set_option maxRecDepth 100000 in
theorem lifted_fnExactRuleRight (os : Os) (started : os.Started) (H : Type) (enc : TypeId × Value → H) :
    ReturnsInHanded {} Try.checked os 3 .any (Rows.fnExactRuleRightSpec.pre6 enc Try.prog Try.f3 Rows.fnExactRuleRightRow.domain false) (Rows.fnExactRuleRightSpec.post enc Try.prog Try.f3 false true false false) := by
  refine returnsInHanded_of_change (C := Try.checked) own_fnExactRuleRight started (by kernel_rfl) Try.func3
    (ChangeSpec.witness6 (enc := enc) (C := Try.checked) false ⟨#[], #[.agg #[.int .i64 0, .int .i64 0, .int .i64 0, .int .i64 0, .int .i64 0, .int .i64 0, .int .i64 0]], []⟩ 8 (by kernel_rfl) (by kernel_rfl) (by kernel_rfl) (by kernel_rfl)) ?_
  intro W base args ds gs before hval0 hW hcnd _
  have hval : ∀ (j : Nat) t v, Try.f3.params[j]? = some t → args[j]? = some v → Value.okWide Try.prog W .any base t v := hval0
  have hW' := hW
  obtain ⟨p, q, hA0, hV, rfl, hfz, hnd⟩ := hW
  have hA : DataW.TrodAll enc Try.prog W 0 (fun _ => true) true Try.f3.params.toList args.toList ds p := hA0
  rw [Try.params3] at hA hval
  obtain ⟨v0, vs0, d0, ds0, p0, q0, hargs, rfl, rfl, h0, r0⟩ := trodAll_cons hA
  obtain ⟨rfl, rfl, rfl⟩ := trodAll_nil r0
  obtain rfl : args = #[v0] := by cases args; simp_all
  obtain ⟨rfl, rfl⟩ := trodVars_none hV
  have k0 := h0
  have lt0 : ∀ x ∈ p0, x.block < W.heap.size := by obtain ⟨m, hm⟩ := k0; exact DataW.trod_lt m _ _ _ hm
  obtain ⟨f0_0, f0_1, f0_2, f0_3, f0_4, f0_5, f0_6, rfl, g0_0, g0_1, g0_2, g0_3, g0_4, g0_5, g0_6⟩ := open_rule (hval 0 23 v0 rfl rfl) h0
  clear hA0 hval0
  refine (ruleRightLaw_walk f0_0 f0_1 f0_2 f0_3 f0_4 f0_5 f0_6 g0_0 g0_1 g0_2 g0_3 g0_4 g0_5 g0_6 W).mono fun e W' ⟨he, bel⟩ => ?_
  subst he
  exact ⟨_, rfl, _, _, _, [], _, [], hW', trodAll_mk1 (shut_bool Try.underlying4 _), (trodAll_cons_mk (Below.trod laidOut_fnExactRuleRight (by kernel_rfl) (of_decide_eq_true (by kernel_rfl)) k0 bel lt0) trodAll_mk0), rfl, bel.frame _, fun h => by cases h⟩

theorem ruleRight_holds : Rows.FnExactRuleRightSaid :=
  OpenClaim.holds_of_wide 3 Try.f3 rfl rfl rfl rfl rfl rfl rfl ⟨rfl, rfl, rfl, rfl, rfl⟩ rfl rfl rfl rfl rfl (by kernel_rfl) Try.func3 (by kernel_rfl)
    (of_decide_eq_true (by kernel_rfl)) (by unfold Func.isWrapper; first | (rw [if_pos (by decide +kernel)]; kernel_rfl) | (rw [if_neg (by decide +kernel)]; exact ⟨rfl, rfl⟩))
    (fun os started H enc _ => lifted_fnExactRuleRight os started H enc)
#print axioms ruleRight_holds
end Go.Proofs.Ytfnpobhjkmkepaa
