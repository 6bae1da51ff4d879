/- Proved here: laws.FnExactRulesRight returns true at every argument, and each argument reads afterwards as before (no conditions). -/
import Derived.Test.YtfnpobhjkmkepaaOpenRules
import Derived.Test.YtfnpobhjkmkepaaLawsRules
import Derived.Test.YtfnpobhjkmkepaaRulesS
import Derived.Test.YtfnpobhjkmkepaaAllRI
import Derived.WalkKit
import Derived.WalkSpells
import Derived.ProofKit
import Derived.OpenShut
import Derived.ShutString
import Derived.Handy
import Derived.Below
namespace Go.Proofs.Ytfnpobhjkmkepaa
open Go.ChangeShapes Go.WideShapes Go.ChangeAt Go.RowKit
open Go.ChangeMaps (open_string shut_string)
set_option linter.unusedVariables false

set_option maxHeartbeats 4000000 in
theorem rulesRightLaw_walk (a : Option Addr) (cap : Nat) (l : List Rl) (w : World) (hR : RowZ a (flatRule l) w) (hm : l.length ≤ maxLen) :
    Calls Try.prog 4 #[.slice a l.length cap] w fun e w' => e = .returned (.bool true) ∧ Below w.heap.size w w' := by
  have hm' : l.length ≤ 9223372036854775807 := hm
  have HR := hidS hR
  clear hR hm
  have HSZ := hidS (fun W => szRules_any a l.length cap 1048576 W hm' (by omega) (by omega))
  by_cases hbig : 1048576 < l.length
  · rw [if_pos (by omega)] at HSZ
    go_enter Try.func4, Try.ntmps4
    go_wp2_with fail
    refine (HSZ.out _).mono ?_
    rintro _ v9 ⟨rfl, rfl⟩
    go_wp2_with fail
    go_ret
    exact ⟨rfl, Below.refl _ _⟩
  rw [if_neg (by omega)] at HSZ
  have hlen : l.length ≤ 1048576 := by omega
  have hnn : ¬ (1048576 - (l.length : Int)) < 0 := by omega
  have HTO := hidS (fun W (h : Below w.heap.size w W) => toRules_any a cap l W (HR.out.later h) hlen)
  have HSP := hidS (fun b c W (h : RowZ (some ⟨b, 0, none⟩) (flatRule l) W) => specRules_any (some ⟨b, 0, none⟩) c l W h hlen)
  have HIM := hidS (fun b c W (h : RowZ (some ⟨b, 0, none⟩) (flatRule l) W) => implRules_any (some ⟨b, 0, none⟩) c l W h hlen)
  have HEQ := hidS (fun b b' c c' W (h : RowZ (some ⟨b, 0, none⟩) (flatRule l) W) (h' : RowZ (some ⟨b', 0, none⟩) (flatRule l) W) => eqRules_any (some ⟨b, 0, none⟩) (some ⟨b', 0, none⟩) c c' l W h h' hlen)
  generalize rulesB l = q at HSP HIM
  clear hbig hm'
  have hL0 := hidS (Below.refl w.heap.size w)
  go_enter Try.func4, Try.ntmps4
  go_wp2_with fail
  refine (HSZ.out _).mono ?_
  rintro _ v9 ⟨rfl, hv9⟩
  rw [hv9]
  clear hv9 v9
  go_wp2_with fail
  refine (HTO.out _ hL0.out).mono ?_
  rintro _ w1 ⟨ba, rfl, hla, hra, hb1⟩
  have hZa1 := hidS (rowB_new hra).read
  have hL1 := hidS (hL0.out.trans (hb1.mono hL0.out.size))
  clear hra hb1 hL0
  go_wp2_with fail
  refine (HSP.out _ _ _ hZa1.out).mono ?_
  rintro _ w2 ⟨rfl, hb2⟩
  have hZa2 := hidS (hZa1.out.later hb2)
  have hL2 := hidS (hL1.out.trans (hb2.mono hL1.out.size))
  clear hb2 hL1 hZa1
  go_wp2_with fail
  refine (HTO.out _ hL2.out).mono ?_
  rintro _ w3 ⟨bx, rfl, hlx, hrx, hb3⟩
  have hZx3 := hidS (rowB_new hrx).read
  have hL3 := hidS (hL2.out.trans (hb3.mono hL2.out.size))
  clear hrx hb3 hL2
  go_wp2_with fail
  refine (HIM.out _ _ _ hZx3.out).mono ?_
  rintro _ w4 ⟨rfl, hb4⟩
  have hZx4 := hidS (hZx3.out.later hb4)
  have hL4 := hidS (hL3.out.trans (hb4.mono hL3.out.size))
  clear hb4 hL3 hZx3
  go_wp2_with fail
  refine (HTO.out _ hL4.out).mono ?_
  rintro _ w5 ⟨bz, rfl, hlz, hrz, hb5⟩
  have hZx5 := hidS (hZx4.out.later hb5)
  have hZz5 := hidS (rowB_new hrz).read
  have hL5 := hidS (hL4.out.trans (hb5.mono hL4.out.size))
  clear hrz hb5 hL4 hZx4
  go_wp2_with fail
  refine (HEQ.out _ _ _ _ _ hZx5.out hZz5.out).mono ?_
  rintro _ w6 ⟨rfl, hb6⟩
  have hZx6 := hidS (hZx5.out.later hb6)
  have hZz6 := hidS (hZz5.out.later hb6)
  have hL6 := hidS (hL5.out.trans (hb6.mono hL5.out.size))
  clear hb6 hL5 hZx5 hZz5
  go_wp2_with fail
  go_ret
  exact ⟨rfl, hL6.out⟩

theorem laidOut_fnExactRulesRight : laidOutB Try.prog = true := by kernel_rfl
theorem own_fnExactRulesRight : ownKnob Try.prog.godebug = none := by kernel_rfl
set_option maxRecDepth 100000 in
theorem lifted_fnExactRulesRight (os : Os) (started : os.Started) (H : Type) (enc : TypeId × Value → H) :
    ReturnsInHanded {} Try.checked os 4 .any (Rows.fnExactRulesRightSpec.pre6 enc Try.prog Try.f4 Rows.fnExactRulesRightRow.domain false) (Rows.fnExactRulesRightSpec.post enc Try.prog Try.f4 false true false false) := by
  refine returnsInHanded_of_change (C := Try.checked) own_fnExactRulesRight started (by kernel_rfl) Try.func4
    (ChangeSpec.witness6 (enc := enc) (C := Try.checked) false ⟨#[], #[.slice none 0 0], []⟩ 8 (by kernel_rfl) (by kernel_rfl) (by kernel_rfl) (by kernel_rfl)) ?_
  intro W base args ds gs before hval0 hW hcnd _
  have hval : ∀ (j : Nat) t v, Try.f4.params[j]? = some t → args[j]? = some v → Value.okWide Try.prog W .any base t v := hval0
  have hW' := hW
  obtain ⟨p, q, hA0, hV, rfl, hfz, hnd⟩ := hW
  have hA : DataW.TrodAll enc Try.prog W 0 (fun _ => true) true Try.f4.params.toList args.toList ds p := hA0
  rw [Try.params4] at hA hval
  obtain ⟨v0, vs0, d0, ds0, p0, q0, hargs, rfl, rfl, h0, r0⟩ := trodAll_cons hA
  obtain ⟨rfl, rfl, rfl⟩ := trodAll_nil r0
  obtain rfl : args = #[v0] := by cases args; simp_all
  obtain ⟨rfl, rfl⟩ := trodVars_none hV
  have k0 := h0
  have lt0 : ∀ x ∈ p0, x.block < W.heap.size := by obtain ⟨m, hm⟩ := k0; exact DataW.trod_lt m _ _ _ hm
  obtain ⟨a0, cap0, s0, rfl, z0, m0⟩ := open_rules (hval 0 28 v0 rfl rfl) h0
  clear hA0 hval0
  refine (rulesRightLaw_walk a0 cap0 s0 W z0 m0).mono fun e W' ⟨he, bel⟩ => ?_
  subst he
  exact ⟨_, rfl, _, _, _, [], _, [], hW', trodAll_mk1 (shut_bool Try.underlying4 _), (trodAll_cons_mk (Below.trod laidOut_fnExactRulesRight (by kernel_rfl) (of_decide_eq_true (by kernel_rfl)) k0 bel lt0) trodAll_mk0), rfl, bel.frame _, fun h => by cases h⟩

theorem rulesRight_holds : Rows.FnExactRulesRightSaid :=
  OpenClaim.holds_of_wide 4 Try.f4 rfl rfl rfl rfl rfl rfl rfl ⟨rfl, rfl, rfl, rfl, rfl⟩ rfl rfl rfl rfl rfl (by kernel_rfl) Try.func4 (by kernel_rfl)
    (of_decide_eq_true (by kernel_rfl)) (by unfold Func.isWrapper; first | (rw [if_pos (by decide +kernel)]; kernel_rfl) | (rw [if_neg (by decide +kernel)]; exact ⟨rfl, rfl⟩))
    (fun os started H enc _ => lifted_fnExactRulesRight os started H enc)
#print axioms rulesRight_holds
end Go.Proofs.Ytfnpobhjkmkepaa
