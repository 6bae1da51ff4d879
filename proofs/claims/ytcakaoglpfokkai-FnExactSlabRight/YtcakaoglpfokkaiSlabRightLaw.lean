/- Proved here: laws.FnExactSlabRight returns true at every argument, and each argument reads afterwards as before (no conditions). -/
import Derived.Test.YtcakaoglpfokkaiOpenSlab
import Derived.Test.YtcakaoglpfokkaiLawsSlab2
import Derived.Test.YtcakaoglpfokkaiSlabRight
import Derived.Test.YtcakaoglpfokkaiSlabRightI
import Derived.Test.YtcakaoglpfokkaiKinds
import Derived.Test.YtcakaoglpfokkaiGrowRes
import Derived.Test.YtcakaoglpfokkaiGrowCases
import Derived.WalkKit
import Derived.WalkSpells
import Derived.ProofKit
import Derived.OpenShut
import Derived.ShutString
import Derived.Handy
import Derived.Below
import Derived.ChangeOld
namespace Go.Proofs.Ytcakaoglpfokkai
open Go.ChangeShapes Go.WideShapes Go.ChangeAt Go.RowKit
set_option linter.unusedVariables false
set_option linter.unusedSimpArgs false
set_option maxRecDepth 100000

theorem SlabO.lower {lo lo' hi : Nat} {aS aH : Option Addr} {s : Slb} {W : World} (h : SlabO lo hi aS aH s W) (hl : lo' ≤ lo) : SlabO lo' hi aS aH s W := by
  refine ⟨?_, ?_, h.two⟩
  · rcases h.slots with e | ⟨b, o, e, q1, q2, q3⟩
    · exact .inl e
    · exact .inr ⟨b, o, e, by omega, q2, q3⟩
  · rcases h.heads with e | ⟨b, o, e, q1, q2, q3⟩
    · exact .inl e
    · exact .inr ⟨b, o, e, by omega, q2, q3⟩
/-- a new slab -/
def slabK (lo : Nat) (s : Slb) : Kp := fun v W => ∃ (bS bH : Option Addr) (hi : Nat), v = .agg #[.slice bS s.slots.length s.slots.length, .slice bH s.heads.length s.heads.length] ∧ SlabO lo hi bS bH s W
set_option maxHeartbeats 4000000 in
theorem slabRightLaw_all (aS aH : Option Addr) (cS cH : Nat) (s : Slb) (w : World) (hz : SlabZ aS aH s w) (hf : SlabFit s) (m1 : s.slots.length ≤ maxLen) (m2 : s.heads.length ≤ maxLen) :
    Calls Try.prog 5 #[.agg #[.slice aS s.slots.length cS, .slice aH s.heads.length cH]] w fun e w' => e = .returned (.bool true) ∧ Below w.heap.size w w' := by
  have m1' : s.slots.length ≤ 9223372036854775807 := m1
  have m2' : s.heads.length ≤ 9223372036854775807 := m2
  have HZ := hidS hz
  have HFT := hidS hf
  clear hz hf m1 m2
  by_cases hbig : 1048576 < s.slots.length + s.heads.length
  · have HSZ := hidS (fun W => szSlab_big aS aH cS cH s W m1' m2' hbig)
    have hGA0 : Hid ((w.alloc (.cells #[.slice aS s.slots.length cS, .slice aH s.heads.length cH] 28)).heap[w.heap.size]? = some (.cells #[.slice aS s.slots.length cS, .slice aH s.heads.length cH] 28)) := by
      show _ = _
      have := heap_newG w (.cells #[.slice aS s.slots.length cS, .slice aH s.heads.length cH] 28)
      simpa using this
    have hL0 := hidS ((Below.refl w.heap.size w).alloc (Nat.le_refl _) (.cells #[.slice aS s.slots.length cS, .slice aH s.heads.length cH] 28))
    go_enter Try.func5, Try.ntmps5
    go_wp2_with fail
    refine (HSZ.out _).mono ?_
    rintro _ w1 ⟨⟨r, rfl, hr⟩, hb1⟩
    have hL1 := hidS (hL0.out.trans (hb1.mono hL0.out.size))
    clear hb1 hL0
    go_wp2_with fail
    go_ret
    exact ⟨rfl, hL1.out⟩
  have HSZ := hidS (fun W => szSlab_ok aS aH cS cH s W m1' m2' hbig)
  have h1 : s.slots.length ≤ 1048576 := by omega
  have h2 : s.heads.length ≤ 1048576 := by omega
  have HTO := hidS (fun W (h : Below w.heap.size w W) => toSlab_any aS aH cS cH s W (HZ.out.later h) h1 h2)
  have HSP := hidS (fun (bS bH : Option Addr) (W : World) (h : SlabZ bS bH s W) => specSlabRight_any bS bH s.slots.length s.heads.length s W h h1 h2)
  have HIM := hidS (fun (bS bH : Option Addr) (W : World) (h : SlabZ bS bH s W) => implSlabRight_any bS bH s.slots.length s.heads.length s W h HFT.out h1 h2)
  have HEQ := hidS (fun (bS bH bS' bH' : Option Addr) (W : World) (h : SlabZ bS bH s W) (h' : SlabZ bS' bH' s W) => eqSlab_any bS bH bS' bH' s.slots.length s.heads.length s.slots.length s.heads.length s W h h' h1 h2)
  generalize rightSl s = ans at HSP HIM
  clear m1' m2' hbig
  have hGA0 : Hid ((w.alloc (.cells #[.slice aS s.slots.length cS, .slice aH s.heads.length cH] 28)).heap[w.heap.size]? = some (.cells #[.slice aS s.slots.length cS, .slice aH s.heads.length cH] 28)) := by
    show _ = _
    have := heap_newG w (.cells #[.slice aS s.slots.length cS, .slice aH s.heads.length cH] 28)
    simpa using this
  have hL0 := hidS ((Below.refl w.heap.size w).alloc (Nat.le_refl _) (.cells #[.slice aS s.slots.length cS, .slice aH s.heads.length cH] 28))
  go_enter Try.func5, Try.ntmps5
  go_wp2_with fail
  refine (HSZ.out _).mono ?_
  rintro _ w1 ⟨⟨r, rfl, hr0, hr1⟩, hb1⟩
  have hGA1 := hidS (blk_later hGA0.out hb1)
  have hL1 := hidS (hL0.out.trans (hb1.mono hL0.out.size))
  have hr2 : ¬ r < 0 := by omega
  clear hb1 hL0 hGA0 HSZ
  have cA0 := blk_cell hGA1.out 0
  have cA1 := blk_cell hGA1.out 1
  simp at cA0 cA1
  go_wp2_with fail
  refine (HTO.out _ hL1.out).mono ?_
  rintro _ w2 ⟨bpS, bpH, rfl, hO2, hb2⟩
  have hGA2 := hidS (blk_later hGA1.out hb2)
  have hL2 := hidS (hL1.out.trans (hb2.mono hL1.out.size))
  have HO2 := hidS hO2.read
  clear hb2 hO2 hL1 hGA1 cA0 cA1
  go_wp2_with fail
  refine (HSP.out _ _ _ HO2.out).mono ?_
  rintro _ w3 ⟨rfl, hb3⟩
  have hGA3 := hidS (blk_later hGA2.out hb3)
  have hL3 := hidS (hL2.out.trans (hb3.mono hL2.out.size))
  clear hb3 HO2 hL2 hGA2
  have cA0 := blk_cell hGA3.out 0
  have cA1 := blk_cell hGA3.out 1
  simp at cA0 cA1
  go_wp2_with fail
  refine (HTO.out _ hL3.out).mono ?_
  rintro _ w4 ⟨bxS, bxH, rfl, hO4, hb4⟩
  have hL4 := hidS (hL3.out.trans (hb4.mono hL3.out.size))
  have HO5 := hidS ((hO4.read).later ((Below.refl w4.heap.size w4).alloc (Nat.le_refl _) (.cells #[.slice bxS s.slots.length s.slots.length, .slice bxH s.heads.length s.heads.length] 33)))
  have hGA5 := hidS (blk_alloc (blk_later hGA3.out hb4) (.cells #[.slice bxS s.slots.length s.slots.length, .slice bxH s.heads.length s.heads.length] 33))
  have hGX5 := hidS (heap_newG w4 (.cells #[.slice bxS s.slots.length s.slots.length, .slice bxH s.heads.length s.heads.length] 33))
  have hL5 := hidS (hL4.out.alloc hL4.out.size (.cells #[.slice bxS s.slots.length s.slots.length, .slice bxH s.heads.length s.heads.length] 33))
  clear hb4 hO4 hL3 hGA3 hL4 cA0 cA1
  go_upto_region 7 with fail
  generalize w4.alloc (.cells #[.slice bxS s.slots.length s.slots.length, .slice bxH s.heads.length s.heads.length] 33) = w5 at HO5 hGA5 hGX5 hL5 ⊢
  generalize w4.heap.size = gx at *
  have x0 := blk_cell hGX5.out 0
  have x1 := blk_cell hGX5.out 1
  simp at x0 x1
  go_wp2_with fail
  refine (HIM.out _ _ _ HO5.out).mono ?_
  rintro _ w6 ⟨rfl, hb6⟩
  have HO6 := hidS (HO5.out.later hb6)
  have hGA6 := hidS (blk_later hGA5.out hb6)
  have hGX6 := hidS (blk_later hGX5.out hb6)
  have hL6 := hidS (hL5.out.trans (hb6.mono hL5.out.size))
  clear hb6 HO5 hGA5 hGX5 hL5 x0 x1
  go_wp2_with fail
  refine grow_res (fun W => Below w6.heap.size w6 W) (fun W W' => Below W.heap.size W W') (kpOf [isP (.agg #[.slice bxS s.slots.length s.slots.length, .slice bxH s.heads.length s.heads.length]), isP (.agg #[.slice aS s.slots.length cS, .slice aH s.heads.length cH]), slabK w6.heap.size s, isP (.bool true), isP (.bool false)]) (by kernel_rfl) (by kernel_rfl) (all_lastB _ ⟨(fun v W W' h _ => h), (fun v W W' h _ => h), (fun v W W' h hR => by obtain ⟨bS, bH, hi, e, ho⟩ := h; exact ⟨bS, bH, hi, e, ho.later hR⟩), (fun v W W' h _ => h), (fun v W W' h _ => h), trivial⟩) (Below.refl _ _).drew ?stepsq ?finq
  case stepsq =>
    refine ⟨?_, ?_, ?_, ?_, ?_, trivial⟩
    · refine ⟨rfl, fun v W ρ hC kc kf ks ki kd => ?_⟩
      have tp : ρ (.tmp 5) = .pointer (some ⟨gx, 0, none⟩) := ki 5 (by decide)
      have e0 := blk_cell (blk_later hGX6.out hC) 0
      have e1 := blk_cell (blk_later hGX6.out hC) 1
      simp at e0 e1
      simp [execOp, go_sem, tp, e0, e1]
      simp only [RanS]
      exact ⟨hC, Below.refl _ _, rfl⟩
    · refine ⟨rfl, fun v W ρ hC kc kf ks ki kd => ?_⟩
      have tp : ρ (.tmp 1) = .pointer (some ⟨w.heap.size, 0, none⟩) := ki 1 (by decide)
      have e0 := blk_cell (blk_later hGA6.out hC) 0
      have e1 := blk_cell (blk_later hGA6.out hC) 1
      simp at e0 e1
      simp [execOp, go_sem, tp, e0, e1]
      simp only [RanS]
      exact ⟨hC, Below.refl _ _, rfl⟩
    · refine ⟨rfl, fun v W ρ hC kc kf ks ki kd => ?_⟩
      have d1 : v 1 = .agg #[.slice aS s.slots.length cS, .slice aH s.heads.length cH] := by first | exact kd _ (mem0 rfl) rfl | exact kd _ (mem1 rfl) rfl | exact kd _ (mem2 rfl) rfl
      have t1 : ρ (.tmp 23) = .agg #[.slice aS s.slots.length cS, .slice aH s.heads.length cH] := (ks 1 23 (by decide) rfl).trans d1
      simp [execOp, go_sem, t1, kf]
      simp only [RanS]
      refine Calls.mono (HTO.out W (hL6.out.trans (hC.mono hL6.out.size))) (fun e x h => ?_)
      obtain ⟨bS, bH, rfl, ho, hb⟩ := h
      have hC2 : Below w6.heap.size w6 x := hC.trans (hb.mono hC.size)
      exact ⟨_, rfl, hC2, hb, bS, bH, x.heap.size, rfl, ho.lower hC.size⟩
    · refine ⟨rfl, fun v W ρ hC kc kf ks ki kd => ?_⟩
      have d0 : v 0 = .agg #[.slice bxS s.slots.length s.slots.length, .slice bxH s.heads.length s.heads.length] := by first | exact kd _ (mem0 rfl) rfl | exact kd _ (mem1 rfl) rfl | exact kd _ (mem2 rfl) rfl
      have t0 : ρ (.tmp 22) = .agg #[.slice bxS s.slots.length s.slots.length, .slice bxH s.heads.length s.heads.length] := (ks 0 22 (by decide) rfl).trans d0
      obtain ⟨bS, bH, hi, hv, ho⟩ : slabK w6.heap.size s (v 2) W := by first | exact kd _ (mem0 rfl) rfl | exact kd _ (mem1 rfl) rfl | exact kd _ (mem2 rfl) rfl
      have t2 : ρ (.tmp 24) = .agg #[.slice bS s.slots.length s.slots.length, .slice bH s.heads.length s.heads.length] := (ks 2 24 (by decide) rfl).trans hv
      simp [execOp, go_sem, t0, t2, kf]
      simp only [RanS]
      exact Calls.mono (HEQ.out _ _ _ _ W (HO6.out.later hC) ho.read) (fun e x h => ⟨_, h.1, hC.trans (h.2.mono hC.size), h.2, rfl⟩)
    · refine ⟨rfl, fun v W ρ hC kc kf ks ki kd => ?_⟩
      have d3 : v 3 = .bool true := by first | exact kd _ (mem0 rfl) rfl | exact kd _ (mem1 rfl) rfl | exact kd _ (mem2 rfl) rfl
      have t3 : ρ (.tmp 25) = .bool true := (ks 3 25 (by decide) rfl).trans d3
      simp [execOp, go_sem, t3]
      simp only [RanS]
      exact ⟨hC, Below.refl _ _, rfl⟩
  intro v7 w7 hb7 hall
  have hv7 : v7 4 = .bool false := hall 4 (by decide)
  simp [upto, Act.put]
  rw [hv7]
  have hL7 := hidS (hL6.out.trans (hb7.mono hL6.out.size))
  clear hb7 hall hv7 hL6 HO6 hGA6 hGX6
  go_wp2_with fail
  go_ret
  exact ⟨rfl, hL7.out⟩
theorem slabRightLaw_walk (aS aH : Option Addr) (cS cH : Nat) (s : Slb) (w : World) (hz : SlabZ aS aH s w) (hf : SlabFit s) (m1 : s.slots.length ≤ maxLen) (m2 : s.heads.length ≤ maxLen) :
    Calls Try.prog 5 #[.agg #[.slice aS s.slots.length cS, .slice aH s.heads.length cH]] w fun e w' => e = .returned (.bool true) ∧ Below w.heap.size w w' := slabRightLaw_all aS aH cS cH s w hz hf m1 m2
theorem laidOut_fnExactSlabRight : laidOutB Try.prog = true := by kernel_rfl
theorem own_fnExactSlabRight : ownKnob Try.prog.godebug = none := by kernel_rfl
set_option maxRecDepth 100000 in
theorem lifted_fnExactSlabRight (os : Os) (started : os.Started) (H : Type) (enc : TypeId × Value → H) :
    ReturnsInHanded {} Try.checked os 5 .any (Rows.fnExactSlabRightSpec.pre6 enc Try.prog Try.f5 Rows.fnExactSlabRightRow.domain false) (Rows.fnExactSlabRightSpec.post enc Try.prog Try.f5 false true false false) := by
  refine returnsInHanded_of_change (C := Try.checked) own_fnExactSlabRight started (by kernel_rfl) Try.func5
    (ChangeSpec.witness6 (enc := enc) (C := Try.checked) false ⟨#[], #[.agg #[.slice none 0 0, .slice none 0 0]], []⟩ 8 (by kernel_rfl) (by kernel_rfl) (by kernel_rfl) (by kernel_rfl)) ?_
  intro W base args ds gs before hval0 hW hcnd _
  have hval : ∀ (j : Nat) t v, Try.f5.params[j]? = some t → args[j]? = some v → Value.okWide Try.prog W .any base t v := hval0
  have hW' := hW
  obtain ⟨p, q, hA0, hV, rfl, hfz, hnd⟩ := hW
  have hA : DataW.TrodAll enc Try.prog W 0 (fun _ => true) true Try.f5.params.toList args.toList ds p := hA0
  rw [Try.params5] at hA hval
  obtain ⟨v0, vs0, d0, ds0, p0, q0, hargs, rfl, rfl, h0, r0⟩ := trodAll_cons hA
  obtain ⟨rfl, rfl, rfl⟩ := trodAll_nil r0
  obtain rfl : args = #[v0] := by cases args; simp_all
  obtain ⟨rfl, rfl⟩ := trodVars_none hV
  have k0 := h0
  have lt0 : ∀ x ∈ p0, x.block < W.heap.size := by obtain ⟨m, hm⟩ := k0; exact DataW.trod_lt m _ _ _ hm
  obtain ⟨aS0, aH0, cS0, cH0, s0, rfl, z0, f0, m0, n0⟩ := open_slab (hval 0 28 v0 rfl rfl) h0
  clear hA0 hval0
  refine (slabRightLaw_walk aS0 aH0 cS0 cH0 s0 W z0 f0 m0 n0).mono fun e W' ⟨he, bel⟩ => ?_
  subst he
  exact ⟨_, rfl, _, _, _, [], _, [], hW', trodAll_mk1 (shut_bool Try.underlying4 _), (trodAll_cons_mk (Below.trod laidOut_fnExactSlabRight (by kernel_rfl) (of_decide_eq_true (by kernel_rfl)) k0 bel lt0) trodAll_mk0), rfl, bel.frame _, fun h => by cases h⟩

theorem slabRight_holds : Rows.FnExactSlabRightSaid :=
  OpenClaim.holds_of_wide 5 Try.f5 rfl rfl rfl rfl rfl rfl rfl ⟨rfl, rfl, rfl, rfl, rfl⟩ rfl rfl rfl rfl rfl (by kernel_rfl) Try.func5 (by kernel_rfl)
    (of_decide_eq_true (by kernel_rfl)) (by unfold Func.isWrapper; first | (rw [if_pos (by decide +kernel)]; kernel_rfl) | (rw [if_neg (by decide +kernel)]; exact ⟨rfl, rfl⟩))
    (fun os started H enc _ => lifted_fnExactSlabRight os started H enc)
#print axioms slabRight_holds
end Go.Proofs.Ytcakaoglpfokkai
