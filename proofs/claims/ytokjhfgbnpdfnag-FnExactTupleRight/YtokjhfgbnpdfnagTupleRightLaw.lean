/- Proved here: laws.FnExactTupleRight returns true at every argument, and each argument reads afterwards as before (no conditions). -/
import Derived.Test.YtokjhfgbnpdfnagOpenTuple
import Derived.Test.YtokjhfgbnpdfnagLawsTp
import Derived.Test.YtokjhfgbnpdfnagTRightSpec
import Derived.Test.YtokjhfgbnpdfnagTRightI
import Derived.Deep.Cut
import Derived.WalkKit
import Derived.WalkSpells
import Derived.ProofKit
import Derived.OpenShut
import Derived.ShutString
import Derived.Handy
import Derived.Below
namespace Go.Proofs.Ytokjhfgbnpdfnag
open Go.ChangeShapes Go.WideShapes Go.ChangeAt Go.RowKit
open Go.ChangeMaps (open_string shut_string)
set_option linter.unusedVariables false

set_option maxHeartbeats 2000000 in
theorem tupleRightLaw_all (t : Tp) (w : World) :
    Calls Try.prog 3 #[.agg #[.int .i64 t.proto, .int .i64 t.src, .int .i64 t.sport, .int .i64 t.dst, .int .i64 t.dport, .int .i64 t.kind]] w fun e w' => e = .returned (.bool true) ∧ Below w.heap.size w w' := by
  have hTT := hidS (fun W => toTuple_any t W)
  have hSR := hidS (fun W => specTRight_any t W)
  have hIR := hidS (fun W => implTRight_any t W)
  generalize rightT t = a at *
  have hGT0 : Hid ((w.alloc (.cells #[.int .i64 t.proto, .int .i64 t.src, .int .i64 t.sport, .int .i64 t.dst, .int .i64 t.dport, .int .i64 t.kind] 23)).heap[w.heap.size]? = some (.cells #[.int .i64 t.proto, .int .i64 t.src, .int .i64 t.sport, .int .i64 t.dst, .int .i64 t.dport, .int .i64 t.kind] 23)) := by
    show _ = _
    have := heap_newG w (.cells #[.int .i64 t.proto, .int .i64 t.src, .int .i64 t.sport, .int .i64 t.dst, .int .i64 t.dport, .int .i64 t.kind] 23)
    simpa using this
  have hL0 := hidS ((Below.refl w.heap.size w).alloc (Nat.le_refl _) (.cells #[.int .i64 t.proto, .int .i64 t.src, .int .i64 t.sport, .int .i64 t.dst, .int .i64 t.dport, .int .i64 t.kind] 23))
  go_enter Try.func3, Try.ntmps3
  go_wp2_with fail
  refine (hTT.out _).mono ?_
  rintro _ w1 ⟨rfl, hb1⟩
  have hGT1 := hidS (blk_later hGT0.out hb1)
  have hL1 := hidS (hL0.out.trans (hb1.mono hL0.out.size))
  clear hb1 hL0 hGT0
  have cT0 := blk_cell hGT1.out 0
  have cT1 := blk_cell hGT1.out 1
  have cT2 := blk_cell hGT1.out 2
  have cT3 := blk_cell hGT1.out 3
  have cT4 := blk_cell hGT1.out 4
  have cT5 := blk_cell hGT1.out 5
  simp at cT0 cT1 cT2 cT3 cT4 cT5
  go_wp2_with fail
  refine (hSR.out _).mono ?_
  rintro _ w2 ⟨rfl, hb2⟩
  clear cT0 cT1 cT2 cT3 cT4 cT5
  have hGT2 := hidS (blk_later hGT1.out hb2)
  have hL2 := hidS (hL1.out.trans (hb2.mono hL1.out.size))
  clear hb2 hL1 hGT1
  have cT0 := blk_cell hGT2.out 0
  have cT1 := blk_cell hGT2.out 1
  have cT2 := blk_cell hGT2.out 2
  have cT3 := blk_cell hGT2.out 3
  have cT4 := blk_cell hGT2.out 4
  have cT5 := blk_cell hGT2.out 5
  simp at cT0 cT1 cT2 cT3 cT4 cT5
  go_wp2_with fail
  refine (hTT.out _).mono ?_
  rintro _ w3 ⟨rfl, hb3⟩
  clear cT0 cT1 cT2 cT3 cT4 cT5
  have hGT3 := hidS (blk_later hGT2.out hb3)
  have hL3 := hidS (hL2.out.trans (hb3.mono hL2.out.size))
  clear hb3 hL2 hGT2
  have cT0 := blk_cell hGT3.out 0
  have cT1 := blk_cell hGT3.out 1
  have cT2 := blk_cell hGT3.out 2
  have cT3 := blk_cell hGT3.out 3
  have cT4 := blk_cell hGT3.out 4
  have cT5 := blk_cell hGT3.out 5
  simp at cT0 cT1 cT2 cT3 cT4 cT5
  go_wp2_with fail
  refine (hIR.out _).mono ?_
  rintro _ w4 ⟨rfl, hb4⟩
  clear cT0 cT1 cT2 cT3 cT4 cT5
  have hGT4 := hidS (blk_later hGT3.out hb4)
  have hL4 := hidS (hL3.out.trans (hb4.mono hL3.out.size))
  clear hb4 hL3 hGT3
  go_wp2_with fail
  go_ret
  exact ⟨rfl, hL4.out⟩

theorem tupleRightLaw_walk (f0_0 f0_1 f0_2 f0_3 f0_4 f0_5 : Int) (g0_0 : (Lit.int .i64 f0_0).wf = true) (g0_1 : (Lit.int .i64 f0_1).wf = true) (g0_2 : (Lit.int .i64 f0_2).wf = true) (g0_3 : (Lit.int .i64 f0_3).wf = true) (g0_4 : (Lit.int .i64 f0_4).wf = true) (g0_5 : (Lit.int .i64 f0_5).wf = true) (w : World) :
    Calls Try.prog 3 #[.agg #[.int .i64 f0_0, .int .i64 f0_1, .int .i64 f0_2, .int .i64 f0_3, .int .i64 f0_4, .int .i64 f0_5]] w fun e w' => e = .returned (.bool true) ∧ Below w.heap.size w w' :=
  tupleRightLaw_all ⟨f0_0, f0_1, f0_2, f0_3, f0_4, f0_5⟩ w

theorem laidOut_fnExactTupleRight : laidOutB Try.prog = true := by kernel_rfl
theorem own_fnExactTupleRight : ownKnob Try.prog.godebug = none := by kernel_rfl
set_option maxRecDepth 100000 in
theorem lifted_fnExactTupleRight (os : Os) (started : os.Started) (H : Type) (enc : TypeId × Value → H) :
    ReturnsInHanded {} Try.checked os 3 .any (Rows.fnExactTupleRightSpec.pre6 enc Try.prog Try.f3 Rows.fnExactTupleRightRow.domain false) (Rows.fnExactTupleRightSpec.post enc Try.prog Try.f3 false true false false) := by
  refine returnsInHanded_of_change (C := Try.checked) own_fnExactTupleRight started (by kernel_rfl) Try.func3
    (ChangeSpec.witness6 (enc := enc) (C := Try.checked) false ⟨#[], #[.agg #[.int .i64 0, .int .i64 0, .int .i64 0, .int .i64 0, .int .i64 0, .int .i64 0]], []⟩ 8 (by kernel_rfl) (by kernel_rfl) (by kernel_rfl) (by kernel_rfl)) ?_
  intro W base args ds gs before hval0 hW hcnd _
  have hval : ∀ (j : Nat) t v, Try.f3.params[j]? = some t → args[j]? = some v → Value.okWide Try.prog W .any base t v := hval0
  have hW' := hW
  obtain ⟨p, q, hA0, hV, rfl, hfz, hnd⟩ := hW
  have hA : DataW.TrodAll enc Try.prog W 0 (fun _ => true) true Try.f3.params.toList args.toList ds p := hA0
  rw [Try.params3] at hA hval
  obtain ⟨v0, vs0, d0, ds0, p0, q0, hargs, rfl, rfl, h0, r0⟩ := trodAll_cons hA
  obtain ⟨rfl, rfl, rfl⟩ := trodAll_nil r0
  obtain rfl : args = #[v0] := by cases args; simp_all
  obtain ⟨rfl, rfl⟩ := trodVars_none hV
  have k0 := h0
  have lt0 : ∀ x ∈ p0, x.block < W.heap.size := by obtain ⟨m, hm⟩ := k0; exact DataW.trod_lt m _ _ _ hm
  obtain ⟨f0_0, f0_1, f0_2, f0_3, f0_4, f0_5, rfl, g0_0, g0_1, g0_2, g0_3, g0_4, g0_5⟩ := open_tuple (hval 0 23 v0 rfl rfl) h0
  clear hA0 hval0
  refine (tupleRightLaw_walk f0_0 f0_1 f0_2 f0_3 f0_4 f0_5 g0_0 g0_1 g0_2 g0_3 g0_4 g0_5 W).mono fun e W' ⟨he, bel⟩ => ?_
  subst he
  exact ⟨_, rfl, _, _, _, [], _, [], hW', trodAll_mk1 (shut_bool Try.underlying4 _), (trodAll_cons_mk (Below.trod laidOut_fnExactTupleRight (by kernel_rfl) (of_decide_eq_true (by kernel_rfl)) k0 bel lt0) trodAll_mk0), rfl, bel.frame _, fun h => by cases h⟩

theorem tupleRight_holds : Rows.FnExactTupleRightSaid :=
  OpenClaim.holds_of_wide 3 Try.f3 rfl rfl rfl rfl rfl rfl rfl ⟨rfl, rfl, rfl, rfl, rfl⟩ rfl rfl rfl rfl rfl (by kernel_rfl) Try.func3 (by kernel_rfl)
    (of_decide_eq_true (by kernel_rfl)) (by unfold Func.isWrapper; first | (rw [if_pos (by decide +kernel)]; kernel_rfl) | (rw [if_neg (by decide +kernel)]; exact ⟨rfl, rfl⟩))
    (fun os started H enc _ => lifted_fnExactTupleRight os started H enc)
#print axioms tupleRight_holds
end Go.Proofs.Ytokjhfgbnpdfnag
