/- Proved here: laws.FnExactInvert returns true at every argument, and each argument reads afterwards as before (no conditions). -/
import Derived.Test.YtokjhfgbnpdfnagOpenTuple
import Derived.Test.YtokjhfgbnpdfnagLawsTp
import Derived.Test.YtokjhfgbnpdfnagLawsTpEq
import Derived.Test.YtokjhfgbnpdfnagInvSpec
import Derived.Test.YtokjhfgbnpdfnagInvI
import Derived.Deep.Cut
import Derived.WalkKit
import Derived.WalkSpells
import Derived.ProofKit
import Derived.OpenShut
import Derived.ShutString
import Derived.Handy
import Derived.Below
namespace Go.Proofs.Ytokjhfgbnpdfnag
open Go.ChangeShapes Go.WideShapes Go.ChangeAt Go.RowKit
open Go.ChangeMaps (open_string shut_string)
set_option linter.unusedVariables false

set_option maxHeartbeats 2000000 in
theorem invertLaw_all (t : Tp) (w : World) :
    Calls Try.prog 5 #[.agg #[.int .i64 t.proto, .int .i64 t.src, .int .i64 t.sport, .int .i64 t.dst, .int .i64 t.dport, .int .i64 t.kind]] w fun e w' => e = .returned (.bool true) ∧ Below w.heap.size w w' := by
  have hTT := hidS (fun W => toTuple_any t W)
  have hSR := hidS (fun W => specInv_any t W)
  have hIR := hidS (fun W => implInv_any t W)
  generalize invAns t = q at *
  have hEQ := hidS (fun W => eqTuple_same q W)
  have hGT0 : Hid ((w.alloc (.cells #[.int .i64 t.proto, .int .i64 t.src, .int .i64 t.sport, .int .i64 t.dst, .int .i64 t.dport, .int .i64 t.kind] 23)).heap[w.heap.size]? = some (.cells #[.int .i64 t.proto, .int .i64 t.src, .int .i64 t.sport, .int .i64 t.dst, .int .i64 t.dport, .int .i64 t.kind] 23)) := by
    show _ = _
    have := heap_newG w (.cells #[.int .i64 t.proto, .int .i64 t.src, .int .i64 t.sport, .int .i64 t.dst, .int .i64 t.dport, .int .i64 t.kind] 23)
    simpa using this
  have hL0 := hidS ((Below.refl w.heap.size w).alloc (Nat.le_refl _) (.cells #[.int .i64 t.proto, .int .i64 t.src, .int .i64 t.sport, .int .i64 t.dst, .int .i64 t.dport, .int .i64 t.kind] 23))
  go_enter Try.func5, Try.ntmps5
  go_wp2_with fail
  refine (hTT.out _).mono ?_
  rintro _ w1 ⟨rfl, hb1⟩
  have hGT1 := hidS (blk_later hGT0.out hb1)
  have hL1 := hidS (hL0.out.trans (hb1.mono hL0.out.size))
  clear hb1 hL0 hGT0
  have cT0 := blk_cell hGT1.out 0
  have cT1 := blk_cell hGT1.out 1
  have cT2 := blk_cell hGT1.out 2
  have cT3 := blk_cell hGT1.out 3
  have cT4 := blk_cell hGT1.out 4
  have cT5 := blk_cell hGT1.out 5
  simp at cT0 cT1 cT2 cT3 cT4 cT5
  go_wp2_with fail
  refine (hSR.out _).mono ?_
  rintro _ w2 ⟨rfl, hb2⟩
  clear cT0 cT1 cT2 cT3 cT4 cT5
  have hGT2 := hidS (blk_later hGT1.out hb2)
  have hL2 := hidS (hL1.out.trans (hb2.mono hL1.out.size))
  clear hb2 hL1 hGT1
  go_upto_region 2 with fail
  have hGW3 := hidS (heap_newG w2 (.cells #[.int .i64 q.proto, .int .i64 q.src, .int .i64 q.sport, .int .i64 q.dst, .int .i64 q.dport, .int .i64 q.kind] 25))
  have hGT3 := hidS (blk_alloc hGT2.out (.cells #[.int .i64 q.proto, .int .i64 q.src, .int .i64 q.sport, .int .i64 q.dst, .int .i64 q.dport, .int .i64 q.kind] 25))
  have hL3 := hidS (hL2.out.alloc hL2.out.size (.cells #[.int .i64 q.proto, .int .i64 q.src, .int .i64 q.sport, .int .i64 q.dst, .int .i64 q.dport, .int .i64 q.kind] 25))
  clear hL2 hGT2
  generalize w2.alloc (.cells #[.int .i64 q.proto, .int .i64 q.src, .int .i64 q.sport, .int .i64 q.dst, .int .i64 q.dport, .int .i64 q.kind] 25) = w3 at hGT3 hGW3 hL3 ⊢
  have cT0 := blk_cell hGT3.out 0
  have cT1 := blk_cell hGT3.out 1
  have cT2 := blk_cell hGT3.out 2
  have cT3 := blk_cell hGT3.out 3
  have cT4 := blk_cell hGT3.out 4
  have cT5 := blk_cell hGT3.out 5
  simp at cT0 cT1 cT2 cT3 cT4 cT5
  go_wp2_with fail
  refine (hTT.out _).mono ?_
  rintro _ w4 ⟨rfl, hb4⟩
  clear cT0 cT1 cT2 cT3 cT4 cT5
  have hGT4 := hidS (blk_later hGT3.out hb4)
  have hGW4 := hidS (blk_later hGW3.out hb4)
  have hL4 := hidS (hL3.out.trans (hb4.mono hL3.out.size))
  clear hb4 hL3 hGT3 hGW3
  have cT0 := blk_cell hGT4.out 0
  have cT1 := blk_cell hGT4.out 1
  have cT2 := blk_cell hGT4.out 2
  have cT3 := blk_cell hGT4.out 3
  have cT4 := blk_cell hGT4.out 4
  have cT5 := blk_cell hGT4.out 5
  simp at cT0 cT1 cT2 cT3 cT4 cT5
  go_wp2_with fail
  refine (hIR.out _).mono ?_
  rintro _ w5 ⟨rfl, hb5⟩
  clear cT0 cT1 cT2 cT3 cT4 cT5
  have hGT5 := hidS (blk_later hGT4.out hb5)
  have hGW5 := hidS (blk_later hGW4.out hb5)
  have hL5 := hidS (hL4.out.trans (hb5.mono hL4.out.size))
  clear hb5 hL4 hGT4 hGW4
  go_upto_region 3 with fail
  have hGG6 := hidS (heap_newG w5 (.cells #[.int .i64 q.proto, .int .i64 q.src, .int .i64 q.sport, .int .i64 q.dst, .int .i64 q.dport, .int .i64 q.kind] 25))
  have hGT6 := hidS (blk_alloc hGT5.out (.cells #[.int .i64 q.proto, .int .i64 q.src, .int .i64 q.sport, .int .i64 q.dst, .int .i64 q.dport, .int .i64 q.kind] 25))
  have hGW6 := hidS (blk_alloc hGW5.out (.cells #[.int .i64 q.proto, .int .i64 q.src, .int .i64 q.sport, .int .i64 q.dst, .int .i64 q.dport, .int .i64 q.kind] 25))
  have hL6 := hidS (hL5.out.alloc hL5.out.size (.cells #[.int .i64 q.proto, .int .i64 q.src, .int .i64 q.sport, .int .i64 q.dst, .int .i64 q.dport, .int .i64 q.kind] 25))
  clear hL5 hGT5 hGW5
  generalize w5.alloc (.cells #[.int .i64 q.proto, .int .i64 q.src, .int .i64 q.sport, .int .i64 q.dst, .int .i64 q.dport, .int .i64 q.kind] 25) = w6 at hGT6 hGW6 hGG6 hL6 ⊢
  have cW0 := blk_cell hGW6.out 0
  have cW1 := blk_cell hGW6.out 1
  have cW2 := blk_cell hGW6.out 2
  have cW3 := blk_cell hGW6.out 3
  have cW4 := blk_cell hGW6.out 4
  have cW5 := blk_cell hGW6.out 5
  simp at cW0 cW1 cW2 cW3 cW4 cW5
  have cG0 := blk_cell hGG6.out 0
  have cG1 := blk_cell hGG6.out 1
  have cG2 := blk_cell hGG6.out 2
  have cG3 := blk_cell hGG6.out 3
  have cG4 := blk_cell hGG6.out 4
  have cG5 := blk_cell hGG6.out 5
  simp at cG0 cG1 cG2 cG3 cG4 cG5
  go_wp2_with fail
  refine (hEQ.out _).mono ?_
  rintro _ w7 ⟨rfl, hb7⟩
  clear cW0 cW1 cW2 cW3 cW4 cW5 cG0 cG1 cG2 cG3 cG4 cG5
  have hGT7 := hidS (blk_later hGT6.out hb7)
  have hGW7 := hidS (blk_later hGW6.out hb7)
  have hGG7 := hidS (blk_later hGG6.out hb7)
  have hL7 := hidS (hL6.out.trans (hb7.mono hL6.out.size))
  clear hb7 hL6 hGT6 hGW6 hGG6
  go_wp2_with fail
  go_ret
  exact ⟨rfl, hL7.out⟩

theorem invertLaw_walk (f0_0 f0_1 f0_2 f0_3 f0_4 f0_5 : Int) (g0_0 : (Lit.int .i64 f0_0).wf = true) (g0_1 : (Lit.int .i64 f0_1).wf = true) (g0_2 : (Lit.int .i64 f0_2).wf = true) (g0_3 : (Lit.int .i64 f0_3).wf = true) (g0_4 : (Lit.int .i64 f0_4).wf = true) (g0_5 : (Lit.int .i64 f0_5).wf = true) (w : World) :
    Calls Try.prog 5 #[.agg #[.int .i64 f0_0, .int .i64 f0_1, .int .i64 f0_2, .int .i64 f0_3, .int .i64 f0_4, .int .i64 f0_5]] w fun e w' => e = .returned (.bool true) ∧ Below w.heap.size w w' :=
  invertLaw_all ⟨f0_0, f0_1, f0_2, f0_3, f0_4, f0_5⟩ w

theorem laidOut_fnExactInvert : laidOutB Try.prog = true := by kernel_rfl
theorem own_fnExactInvert : ownKnob Try.prog.godebug = none := by kernel_rfl
set_option maxRecDepth 100000 in
theorem lifted_fnExactInvert (os : Os) (started : os.Started) (H : Type) (enc : TypeId × Value → H) :
    ReturnsInHanded {} Try.checked os 5 .any (Rows.fnExactInvertSpec.pre6 enc Try.prog Try.f5 Rows.fnExactInvertRow.domain false) (Rows.fnExactInvertSpec.post enc Try.prog Try.f5 false true false false) := by
  refine returnsInHanded_of_change (C := Try.checked) own_fnExactInvert started (by kernel_rfl) Try.func5
    (ChangeSpec.witness6 (enc := enc) (C := Try.checked) false ⟨#[], #[.agg #[.int .i64 0, .int .i64 0, .int .i64 0, .int .i64 0, .int .i64 0, .int .i64 0]], []⟩ 8 (by kernel_rfl) (by kernel_rfl) (by kernel_rfl) (by kernel_rfl)) ?_
  intro W base args ds gs before hval0 hW hcnd _
  have hval : ∀ (j : Nat) t v, Try.f5.params[j]? = some t → args[j]? = some v → Value.okWide Try.prog W .any base t v := hval0
  have hW' := hW
  obtain ⟨p, q, hA0, hV, rfl, hfz, hnd⟩ := hW
  have hA : DataW.TrodAll enc Try.prog W 0 (fun _ => true) true Try.f5.params.toList args.toList ds p := hA0
  rw [Try.params5] at hA hval
  obtain ⟨v0, vs0, d0, ds0, p0, q0, hargs, rfl, rfl, h0, r0⟩ := trodAll_cons hA
  obtain ⟨rfl, rfl, rfl⟩ := trodAll_nil r0
  obtain rfl : args = #[v0] := by cases args; simp_all
  obtain ⟨rfl, rfl⟩ := trodVars_none hV
  have k0 := h0
  have lt0 : ∀ x ∈ p0, x.block < W.heap.size := by obtain ⟨m, hm⟩ := k0; exact DataW.trod_lt m _ _ _ hm
  obtain ⟨f0_0, f0_1, f0_2, f0_3, f0_4, f0_5, rfl, g0_0, g0_1, g0_2, g0_3, g0_4, g0_5⟩ := open_tuple (hval 0 23 v0 rfl rfl) h0
  clear hA0 hval0
  refine (invertLaw_walk f0_0 f0_1 f0_2 f0_3 f0_4 f0_5 g0_0 g0_1 g0_2 g0_3 g0_4 g0_5 W).mono fun e W' ⟨he, bel⟩ => ?_
  subst he
  exact ⟨_, rfl, _, _, _, [], _, [], hW', trodAll_mk1 (shut_bool Try.underlying4 _), (trodAll_cons_mk (Below.trod laidOut_fnExactInvert (by kernel_rfl) (of_decide_eq_true (by kernel_rfl)) k0 bel lt0) trodAll_mk0), rfl, bel.frame _, fun h => by cases h⟩

theorem invert_holds : Rows.FnExactInvertSaid :=
  OpenClaim.holds_of_wide 5 Try.f5 rfl rfl rfl rfl rfl rfl rfl ⟨rfl, rfl, rfl, rfl, rfl⟩ rfl rfl rfl rfl rfl (by kernel_rfl) Try.func5 (by kernel_rfl)
    (of_decide_eq_true (by kernel_rfl)) (by unfold Func.isWrapper; first | (rw [if_pos (by decide +kernel)]; kernel_rfl) | (rw [if_neg (by decide +kernel)]; exact ⟨rfl, rfl⟩))
    (fun os started H enc _ => lifted_fnExactInvert os started H enc)
#print axioms invert_holds
end Go.Proofs.Ytokjhfgbnpdfnag
