/- Proved here: laws.FnExactFlowRight returns true at every argument, and each argument reads afterwards as before (no conditions). -/
import Derived.Test.YtbhemimhmkgfiaaOpenFlow
import Derived.Test.YtbhemimhmkgfiaaLawsFl
import Derived.Test.YtbhemimhmkgfiaaFlowS1
import Derived.Test.YtbhemimhmkgfiaaFlowI1
import Derived.WalkKit
import Derived.WalkSpells
import Derived.ProofKit
import Derived.OpenShut
import Derived.ShutString
import Derived.Handy
import Derived.Below
namespace Go.Proofs.Ytbhemimhmkgfiaa
open Go.ChangeShapes Go.WideShapes Go.ChangeAt Go.RowKit
open Go.ChangeMaps (open_string shut_string)
set_option linter.unusedVariables false

theorem flowRightLaw_all (f : Fl) (w : World) : Calls Try.prog 3 #[.agg #[.int .i64 f.orig.proto, .int .i64 f.orig.src, .int .i64 f.orig.sport, .int .i64 f.orig.dst, .int .i64 f.orig.dport, .int .i64 f.orig.kind, .int .i64 f.back.proto, .int .i64 f.back.src, .int .i64 f.back.sport, .int .i64 f.back.dst, .int .i64 f.back.dport, .int .i64 f.back.kind, .int .i64 f.state, .bool f.seen, .bool f.sure, .int .i64 f.till, .int .i64 f.count]] w fun e w' => e = .returned (.bool true) ∧ Below w.heap.size w w' := by
  have HT := hidS (fun W => toFlow_any f W)
  have HS := hidS (fun W => specFR_any f W)
  have HI := hidS (fun W => implFR_any f W)
  generalize rightF f = a at *
  have hGA0 : Hid ((w.alloc (.cells #[.int .i64 f.orig.proto, .int .i64 f.orig.src, .int .i64 f.orig.sport, .int .i64 f.orig.dst, .int .i64 f.orig.dport, .int .i64 f.orig.kind, .int .i64 f.back.proto, .int .i64 f.back.src, .int .i64 f.back.sport, .int .i64 f.back.dst, .int .i64 f.back.dport, .int .i64 f.back.kind, .int .i64 f.state, .bool f.seen, .bool f.sure, .int .i64 f.till, .int .i64 f.count] 25)).heap[w.heap.size]? = some (.cells #[.int .i64 f.orig.proto, .int .i64 f.orig.src, .int .i64 f.orig.sport, .int .i64 f.orig.dst, .int .i64 f.orig.dport, .int .i64 f.orig.kind, .int .i64 f.back.proto, .int .i64 f.back.src, .int .i64 f.back.sport, .int .i64 f.back.dst, .int .i64 f.back.dport, .int .i64 f.back.kind, .int .i64 f.state, .bool f.seen, .bool f.sure, .int .i64 f.till, .int .i64 f.count] 25)) := by
    show _ = _
    have := heap_newG w (.cells #[.int .i64 f.orig.proto, .int .i64 f.orig.src, .int .i64 f.orig.sport, .int .i64 f.orig.dst, .int .i64 f.orig.dport, .int .i64 f.orig.kind, .int .i64 f.back.proto, .int .i64 f.back.src, .int .i64 f.back.sport, .int .i64 f.back.dst, .int .i64 f.back.dport, .int .i64 f.back.kind, .int .i64 f.state, .bool f.seen, .bool f.sure, .int .i64 f.till, .int .i64 f.count] 25)
    simpa using this
  have hL0 := hidS ((Below.refl w.heap.size w).alloc (Nat.le_refl _) (.cells #[.int .i64 f.orig.proto, .int .i64 f.orig.src, .int .i64 f.orig.sport, .int .i64 f.orig.dst, .int .i64 f.orig.dport, .int .i64 f.orig.kind, .int .i64 f.back.proto, .int .i64 f.back.src, .int .i64 f.back.sport, .int .i64 f.back.dst, .int .i64 f.back.dport, .int .i64 f.back.kind, .int .i64 f.state, .bool f.seen, .bool f.sure, .int .i64 f.till, .int .i64 f.count] 25))
  go_enter Try.func3, Try.ntmps3
  go_upto_region 1 with fail
  generalize (w.alloc (.cells #[.int .i64 f.orig.proto, .int .i64 f.orig.src, .int .i64 f.orig.sport, .int .i64 f.orig.dst, .int .i64 f.orig.dport, .int .i64 f.orig.kind, .int .i64 f.back.proto, .int .i64 f.back.src, .int .i64 f.back.sport, .int .i64 f.back.dst, .int .i64 f.back.dport, .int .i64 f.back.kind, .int .i64 f.state, .bool f.seen, .bool f.sure, .int .i64 f.till, .int .i64 f.count] 25)) = w0 at hGA0 hL0 ⊢
  go_wp2_with (first | refine wpList_load_blk 25 (.tmp 1) rfl rfl rfl hGA0.out Try.underlying25 rfl (by kernel_rfl) ?_)
  refine (HT.out _).mono ?_
  rintro _ w1 ⟨rfl, hb1⟩
  have hGA1 := hidS (blk_later hGA0.out hb1)
  have hL1 := hidS (hL0.out.trans (hb1.mono hL0.out.size))
  clear hb1 hL0 hGA0
  go_wp2_with fail
  refine (HS.out _).mono ?_
  rintro _ w2 ⟨rfl, hb2⟩
  have hGA2 := hidS (blk_later hGA1.out hb2)
  have hL2 := hidS (hL1.out.trans (hb2.mono hL1.out.size))
  clear hb2 hL1 hGA1
  go_wp2_with (first | refine wpList_load_blk 25 (.tmp 1) rfl rfl rfl hGA2.out Try.underlying25 rfl (by kernel_rfl) ?_)
  refine (HT.out _).mono ?_
  rintro _ w3 ⟨rfl, hb3⟩
  have hGA3 := hidS (blk_later hGA2.out hb3)
  have hL3 := hidS (hL2.out.trans (hb3.mono hL2.out.size))
  clear hb3 hL2 hGA2
  go_wp2_with fail
  refine (HI.out _).mono ?_
  rintro _ w4 ⟨rfl, hb4⟩
  have hGA4 := hidS (blk_later hGA3.out hb4)
  have hL4 := hidS (hL3.out.trans (hb4.mono hL3.out.size))
  clear hb4 hL3 hGA3
  go_wp2_with fail
  go_ret
  exact ⟨rfl, hL4.out⟩

theorem flowRightLaw_walk (f0_0 : Int) (f0_1 : Int) (f0_2 : Int) (f0_3 : Int) (f0_4 : Int) (f0_5 : Int) (f0_6 : Int) (f0_7 : Int) (f0_8 : Int) (f0_9 : Int) (f0_10 : Int) (f0_11 : Int) (f0_12 : Int) (f0_13 : Bool) (f0_14 : Bool) (f0_15 : Int) (f0_16 : Int) (g0_0 : (Lit.int .i64 f0_0).wf = true) (g0_1 : (Lit.int .i64 f0_1).wf = true) (g0_2 : (Lit.int .i64 f0_2).wf = true) (g0_3 : (Lit.int .i64 f0_3).wf = true) (g0_4 : (Lit.int .i64 f0_4).wf = true) (g0_5 : (Lit.int .i64 f0_5).wf = true) (g0_6 : (Lit.int .i64 f0_6).wf = true) (g0_7 : (Lit.int .i64 f0_7).wf = true) (g0_8 : (Lit.int .i64 f0_8).wf = true) (g0_9 : (Lit.int .i64 f0_9).wf = true) (g0_10 : (Lit.int .i64 f0_10).wf = true) (g0_11 : (Lit.int .i64 f0_11).wf = true) (g0_12 : (Lit.int .i64 f0_12).wf = true) (g0_15 : (Lit.int .i64 f0_15).wf = true) (g0_16 : (Lit.int .i64 f0_16).wf = true) (w : World) : Calls Try.prog 3 #[.agg #[.int .i64 f0_0, .int .i64 f0_1, .int .i64 f0_2, .int .i64 f0_3, .int .i64 f0_4, .int .i64 f0_5, .int .i64 f0_6, .int .i64 f0_7, .int .i64 f0_8, .int .i64 f0_9, .int .i64 f0_10, .int .i64 f0_11, .int .i64 f0_12, .bool f0_13, .bool f0_14, .int .i64 f0_15, .int .i64 f0_16]] w fun e w' => e = .returned (.bool true) ∧ Below w.heap.size w w' :=
  flowRightLaw_all ⟨⟨f0_0, f0_1, f0_2, f0_3, f0_4, f0_5⟩, ⟨f0_6, f0_7, f0_8, f0_9, f0_10, f0_11⟩, f0_12, f0_13, f0_14, f0_15, f0_16⟩ w

theorem laidOut_fnExactFlowRight : laidOutB Try.prog = true := by kernel_rfl
theorem own_fnExactFlowRight : ownKnob Try.prog.godebug = none := by kernel_rfl
set_option maxRecDepth 100000 in
theorem lifted_fnExactFlowRight (os : Os) (started : os.Started) (H : Type) (enc : TypeId × Value → H) :
    ReturnsInHanded {} Try.checked os 3 .any (Rows.fnExactFlowRightSpec.pre6 enc Try.prog Try.f3 Rows.fnExactFlowRightRow.domain false) (Rows.fnExactFlowRightSpec.post enc Try.prog Try.f3 false true false false) := by
  refine returnsInHanded_of_change (C := Try.checked) own_fnExactFlowRight started (by kernel_rfl) Try.func3
    (ChangeSpec.witness6 (enc := enc) (C := Try.checked) false ⟨#[], #[.agg #[.int .i64 0, .int .i64 0, .int .i64 0, .int .i64 0, .int .i64 0, .int .i64 0, .int .i64 0, .int .i64 0, .int .i64 0, .int .i64 0, .int .i64 0, .int .i64 0, .int .i64 0, .bool false, .bool false, .int .i64 0, .int .i64 0]], []⟩ 8 (by kernel_rfl) (by kernel_rfl) (by kernel_rfl) (by kernel_rfl)) ?_
  intro W base args ds gs before hval0 hW hcnd _
  have hval : ∀ (j : Nat) t v, Try.f3.params[j]? = some t → args[j]? = some v → Value.okWide Try.prog W .any base t v := hval0
  have hW' := hW
  obtain ⟨p, q, hA0, hV, rfl, hfz, hnd⟩ := hW
  have hA : DataW.TrodAll enc Try.prog W 0 (fun _ => true) true Try.f3.params.toList args.toList ds p := hA0
  rw [Try.params3] at hA hval
  obtain ⟨v0, vs0, d0, ds0, p0, q0, hargs, rfl, rfl, h0, r0⟩ := trodAll_cons hA
  obtain ⟨rfl, rfl, rfl⟩ := trodAll_nil r0
  obtain rfl : args = #[v0] := by cases args; simp_all
  obtain ⟨rfl, rfl⟩ := trodVars_none hV
  have k0 := h0
  have lt0 : ∀ x ∈ p0, x.block < W.heap.size := by obtain ⟨m, hm⟩ := k0; exact DataW.trod_lt m _ _ _ hm
  obtain ⟨f0_0, f0_1, f0_2, f0_3, f0_4, f0_5, f0_6, f0_7, f0_8, f0_9, f0_10, f0_11, f0_12, f0_13, f0_14, f0_15, f0_16, rfl, g0_0, g0_1, g0_2, g0_3, g0_4, g0_5, g0_6, g0_7, g0_8, g0_9, g0_10, g0_11, g0_12, g0_15, g0_16⟩ := open_flow (hval 0 25 v0 rfl rfl) h0
  clear hA0 hval0
  refine (flowRightLaw_walk f0_0 f0_1 f0_2 f0_3 f0_4 f0_5 f0_6 f0_7 f0_8 f0_9 f0_10 f0_11 f0_12 f0_13 f0_14 f0_15 f0_16 g0_0 g0_1 g0_2 g0_3 g0_4 g0_5 g0_6 g0_7 g0_8 g0_9 g0_10 g0_11 g0_12 g0_15 g0_16 W).mono fun e W' ⟨he, bel⟩ => ?_
  subst he
  exact ⟨_, rfl, _, _, _, [], _, [], hW', trodAll_mk1 (shut_bool Try.underlying4 _), (trodAll_cons_mk (Below.trod laidOut_fnExactFlowRight (by kernel_rfl) (of_decide_eq_true (by kernel_rfl)) k0 bel lt0) trodAll_mk0), rfl, bel.frame _, fun h => by cases h⟩

theorem flowRight_holds : Rows.FnExactFlowRightSaid :=
  OpenClaim.holds_of_wide 3 Try.f3 rfl rfl rfl rfl rfl rfl rfl ⟨rfl, rfl, rfl, rfl, rfl⟩ rfl rfl rfl rfl rfl (by kernel_rfl) Try.func3 (by kernel_rfl)
    (of_decide_eq_true (by kernel_rfl)) (by unfold Func.isWrapper; first | (rw [if_pos (by decide +kernel)]; kernel_rfl) | (rw [if_neg (by decide +kernel)]; exact ⟨rfl, rfl⟩))
    (fun os started H enc _ => lifted_fnExactFlowRight os started H enc)
#print axioms flowRight_holds
end Go.Proofs.Ytbhemimhmkgfiaa
