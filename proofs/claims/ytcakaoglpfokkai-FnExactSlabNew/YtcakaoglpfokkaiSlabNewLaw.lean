/- Proved here: laws.FnExactSlabNew returns true at every argument, and each argument reads afterwards as before (no conditions). -/
import Derived.Test.YtcakaoglpfokkaiRows
import Derived.Test.YtcakaoglpfokkaiLawsSlab3
import Derived.Test.YtcakaoglpfokkaiSlabNewS
import Derived.Test.YtcakaoglpfokkaiSlabNewI
import Derived.WalkKit
import Derived.WalkSpells
import Derived.ProofKit
import Derived.OpenShut
import Derived.ShutString
import Derived.Handy
import Derived.Below
import Derived.ChangeOld
namespace Go.Proofs.Ytcakaoglpfokkai
open Go.ChangeShapes Go.WideShapes Go.ChangeAt Go.RowKit
set_option linter.unusedVariables false
set_option linter.unusedSimpArgs false
set_option maxRecDepth 100000

theorem newSl_len (n m : Int) : (newSl n m).slots.length ≤ 1048576 ∧ (newSl n m).heads.length ≤ 1048576 := by
  unfold newSl newB
  split
  · rename_i h
    simp only [Bool.and_eq_true, decide_eq_true_eq] at h
    simp [zeroSlots, ends]
    omega
  · simp
set_option maxHeartbeats 4000000 in
theorem slabNewLaw_all (n c : Int) (w : World) :
    Calls Try.prog 6 #[.int .i64 n, .int .i64 c] w fun e w' => e = .returned (.bool true) ∧ Below w.heap.size w w' := by
  have HSP := hidS (fun W => specSlabNew_any n c W)
  have HIM := hidS (fun W => implSlabNew_any n c W)
  obtain ⟨t1, t2⟩ := newSl_len n c
  generalize newSl n c = t at HSP HIM t1 t2
  have HEQ := hidS (fun (bS bH bS' bH' : Option Addr) (k1 k2 k3 k4 : Nat) (W : World) (h : SlabZ bS bH t W) (h' : SlabZ bS' bH' t W) => eqSlab_any bS bH bS' bH' k1 k2 k3 k4 t W h h' t1 t2)
  have HMG := hidS (fun (lo hi : Nat) (bS bH : Option Addr) (k1 k2 : Nat) (W : World) (h : SlabO lo hi bS bH t W) (hh : hi ≤ W.heap.size) => markSlab_any lo hi bS bH k1 k2 t 1 W h hh t1 t2 (by omega) (by omega))
  have HHE := hidS (fun (bS bH : Option Addr) (k1 k2 : Nat) (W : World) (h : RowZ bS (marks 1 (4 * t.slots.length)) W) (h' : RowZ bH (marks (1 + 4 * t.slots.length) t.heads.length) W) => heldSlab_any bS bH k1 k2 t.slots.length t.heads.length 1 W h h' t1 t2 (by omega) (by omega))
  have hk2 : ¬ (1 + 4 * (t.slots.length : Int) + (t.heads.length : Int)) < 0 := by omega
  have hL0 := hidS (Below.refl w.heap.size w)
  go_enter Try.func6, Try.ntmps6
  go_wp2_with fail
  refine (HSP.out _).mono ?_
  rintro _ w1 ⟨bwS, kw, bwH, lw, rfl, hOW, hb1⟩
  have HOW1 := hidS hOW
  have b1 := hb1.size
  clear hOW
  have hL1 := hidS (hL0.out.trans (hb1.mono hL0.out.size))
  clear hL0 hb1
  have HOW2 := hidS (HOW1.out.later ((Below.refl w1.heap.size w1).alloc (Nat.le_refl _) (.cells #[.slice bwS t.slots.length kw, .slice bwH t.heads.length lw] 33)))
  have hGW2 := hidS (heap_newG w1 (.cells #[.slice bwS t.slots.length kw, .slice bwH t.heads.length lw] 33))
  have hL2 := hidS (hL1.out.alloc hL1.out.size (.cells #[.slice bwS t.slots.length kw, .slice bwH t.heads.length lw] 33))
  have z2 : (w1.alloc (.cells #[.slice bwS t.slots.length kw, .slice bwH t.heads.length lw] 33)).heap.size = w1.heap.size + 1 := by simp
  clear HOW1 hL1
  go_upto_region 2 with fail
  generalize w1.alloc (.cells #[.slice bwS t.slots.length kw, .slice bwH t.heads.length lw] 33) = w2 at HOW2 hGW2 hL2 z2 ⊢
  go_wp2_with fail
  refine (HIM.out _).mono ?_
  rintro _ w3 ⟨bgS, kg, bgH, lg, rfl, hOG, hb3⟩
  have HOG3 := hidS hOG
  have b3 := hb3.size
  clear hOG
  have HOW3 := hidS (HOW2.out.later hb3)
  have hGW3 := hidS (blk_later hGW2.out hb3)
  have hL3 := hidS (hL2.out.trans (hb3.mono hL2.out.size))
  clear HOW2 hGW2 hL2 hb3
  have HOW4 := hidS (HOW3.out.later ((Below.refl w3.heap.size w3).alloc (Nat.le_refl _) (.cells #[.slice bgS t.slots.length kg, .slice bgH t.heads.length lg] 33)))
  have hGW4 := hidS (blk_alloc hGW3.out (.cells #[.slice bgS t.slots.length kg, .slice bgH t.heads.length lg] 33))
  have HOG4 := hidS (HOG3.out.later ((Below.refl w3.heap.size w3).alloc (Nat.le_refl _) (.cells #[.slice bgS t.slots.length kg, .slice bgH t.heads.length lg] 33)))
  have hGG4 := hidS (heap_newG w3 (.cells #[.slice bgS t.slots.length kg, .slice bgH t.heads.length lg] 33))
  have hL4 := hidS (hL3.out.alloc hL3.out.size (.cells #[.slice bgS t.slots.length kg, .slice bgH t.heads.length lg] 33))
  have z4 : (w3.alloc (.cells #[.slice bgS t.slots.length kg, .slice bgH t.heads.length lg] 33)).heap.size = w3.heap.size + 1 := by simp
  clear HOW3 hGW3 HOG3 hL3
  go_upto_region 3 with fail
  generalize w3.alloc (.cells #[.slice bgS t.slots.length kg, .slice bgH t.heads.length lg] 33) = w4 at HOW4 hGW4 HOG4 hGG4 hL4 z4 ⊢
  generalize w1.heap.size = L1 at *
  generalize w2.heap.size = L2 at *
  generalize w3.heap.size = L3 at *
  have LL : Hid (w.heap.size ≤ L1 ∧ L1 < L2 ∧ L2 ≤ L3) := hidS ⟨b1, by omega, b3⟩
  clear b1 b3 z2 z4
  have g0 := blk_cell hGG4.out 0
  have g1 := blk_cell hGG4.out 1
  simp at g0 g1
  have v0 := blk_cell hGW4.out 0
  have v1 := blk_cell hGW4.out 1
  simp at v0 v1
  go_wp2_with fail
  refine (HEQ.out _ _ _ _ _ _ _ _ _ HOG4.out.read HOW4.out.read).mono ?_
  rintro _ w5 ⟨rfl, hb5⟩
  clear g0 g1 v0 v1
  have HOW5 := hidS (HOW4.out.later hb5)
  have hGW5 := hidS (blk_later hGW4.out hb5)
  have HOG5 := hidS (HOG4.out.later hb5)
  have hGG5 := hidS (blk_later hGG4.out hb5)
  have hL5 := hidS (hL4.out.trans (hb5.mono hL4.out.size))
  clear HOW4 hGW4 HOG4 hGG4 hL4 hb5
  have g0 := blk_cell hGG5.out 0
  have g1 := blk_cell hGG5.out 1
  simp at g0 g1
  go_wp2_with fail
  refine (HMG.out L2 L3 _ _ _ _ _ HOG5.out (Nat.le_of_lt (blk_lt hGG5.out))).mono ?_
  rintro _ w6 ⟨rfl, hRS, hRH, hm6⟩
  have HRS6 := hidS hRS
  have HRH6 := hidS hRH
  have l := LL.out
  clear hRS hRH g0 g1
  have HOW6 := hidS (HOW5.out.apart hm6 (by omega))
  have hGW6 := hidS ((hm6.block _ (blk_lt hGW5.out) (by omega)).trans hGW5.out)
  have hGG6 := hidS ((hm6.block _ (blk_lt hGG5.out) (by omega)).trans hGG5.out)
  have hL6 := hidS (hL5.out.trans (hm6.below (by omega) hL5.out.size))
  clear HOW5 hGW5 HOG5 hGG5 hL5 hm6
  clear l
  have g0 := blk_cell hGG6.out 0
  have g1 := blk_cell hGG6.out 1
  simp at g0 g1
  go_wp2_with fail
  refine (HHE.out _ _ _ _ _ HRS6.out.read HRH6.out.read).mono ?_
  rintro _ w7 ⟨rfl, hb7⟩
  clear g0 g1
  have HOW7 := hidS (HOW6.out.later hb7)
  have hGW7 := hidS (blk_later hGW6.out hb7)
  have hGG7 := hidS (blk_later hGG6.out hb7)
  have HRS7 := hidS (HRS6.out.later hb7)
  have HRH7 := hidS (HRH6.out.later hb7)
  have hL7 := hidS (hL6.out.trans (hb7.mono hL6.out.size))
  clear HOW6 hGW6 hGG6 HRS6 HRH6 hL6 hb7
  go_wp2_with fail
  refine (HIM.out _).mono ?_
  rintro _ w8 ⟨bhS, kh, bhH, lh, rfl, hOH, hb8⟩
  have HOH8 := hidS hOH.read
  clear hOH
  have HOW8 := hidS (HOW7.out.later hb8)
  have hGW8 := hidS (blk_later hGW7.out hb8)
  have hGG8 := hidS (blk_later hGG7.out hb8)
  have HRS8 := hidS (HRS7.out.later hb8)
  have HRH8 := hidS (HRH7.out.later hb8)
  have hL8 := hidS (hL7.out.trans (hb8.mono hL7.out.size))
  clear HOW7 hGW7 hGG7 HRS7 HRH7 hL7 hb8
  have HOW9 := hidS (HOW8.out.later ((Below.refl w8.heap.size w8).alloc (Nat.le_refl _) (.cells #[.slice bhS t.slots.length kh, .slice bhH t.heads.length lh] 33)))
  have hGW9 := hidS (blk_alloc hGW8.out (.cells #[.slice bhS t.slots.length kh, .slice bhH t.heads.length lh] 33))
  have hGG9 := hidS (blk_alloc hGG8.out (.cells #[.slice bhS t.slots.length kh, .slice bhH t.heads.length lh] 33))
  have HRS9 := hidS (HRS8.out.later ((Below.refl w8.heap.size w8).alloc (Nat.le_refl _) (.cells #[.slice bhS t.slots.length kh, .slice bhH t.heads.length lh] 33)))
  have HRH9 := hidS (HRH8.out.later ((Below.refl w8.heap.size w8).alloc (Nat.le_refl _) (.cells #[.slice bhS t.slots.length kh, .slice bhH t.heads.length lh] 33)))
  have HOH9 := hidS (HOH8.out.later ((Below.refl w8.heap.size w8).alloc (Nat.le_refl _) (.cells #[.slice bhS t.slots.length kh, .slice bhH t.heads.length lh] 33)))
  have hGH9 := hidS (heap_newG w8 (.cells #[.slice bhS t.slots.length kh, .slice bhH t.heads.length lh] 33))
  have hL9 := hidS (hL8.out.alloc hL8.out.size (.cells #[.slice bhS t.slots.length kh, .slice bhH t.heads.length lh] 33))
  have z9 : (w8.alloc (.cells #[.slice bhS t.slots.length kh, .slice bhH t.heads.length lh] 33)).heap.size = w8.heap.size + 1 := by simp
  clear HOW8 hGW8 hGG8 HRS8 HRH8 HOH8 hL8
  go_upto_region 14 with fail
  generalize w8.alloc (.cells #[.slice bhS t.slots.length kh, .slice bhH t.heads.length lh] 33) = w9 at HOW9 hGW9 hGG9 HRS9 HRH9 HOH9 hGH9 hL9 z9 ⊢
  generalize w8.heap.size = L6 at *
  clear z9
  have g0 := blk_cell hGH9.out 0
  have g1 := blk_cell hGH9.out 1
  simp at g0 g1
  have v0 := blk_cell hGW9.out 0
  have v1 := blk_cell hGW9.out 1
  simp at v0 v1
  go_wp2_with fail
  refine (HEQ.out _ _ _ _ _ _ _ _ _ HOH9.out HOW9.out.read).mono ?_
  rintro _ w10 ⟨rfl, hb10⟩
  clear g0 g1 v0 v1
  have HOW10 := hidS (HOW9.out.later hb10)
  have hGW10 := hidS (blk_later hGW9.out hb10)
  have hGG10 := hidS (blk_later hGG9.out hb10)
  have HRS10 := hidS (HRS9.out.later hb10)
  have HRH10 := hidS (HRH9.out.later hb10)
  have hGH10 := hidS (blk_later hGH9.out hb10)
  have hL10 := hidS (hL9.out.trans (hb10.mono hL9.out.size))
  clear HOW9 hGW9 hGG9 HRS9 HRH9 HOH9 hGH9 hL9 hb10
  have g0 := blk_cell hGG10.out 0
  have g1 := blk_cell hGG10.out 1
  simp at g0 g1
  go_wp2_with fail
  refine (HHE.out _ _ _ _ _ HRS10.out.read HRH10.out.read).mono ?_
  rintro _ w11 ⟨rfl, hb11⟩
  clear g0 g1
  have HOW11 := hidS (HOW10.out.later hb11)
  have hGW11 := hidS (blk_later hGW10.out hb11)
  have hGG11 := hidS (blk_later hGG10.out hb11)
  have HRS11 := hidS (HRS10.out.later hb11)
  have HRH11 := hidS (HRH10.out.later hb11)
  have hGH11 := hidS (blk_later hGH10.out hb11)
  have hL11 := hidS (hL10.out.trans (hb11.mono hL10.out.size))
  clear HOW10 hGW10 hGG10 HRS10 HRH10 hGH10 hL10 hb11
  go_wp2_with fail
  go_ret
  exact ⟨rfl, hL11.out⟩
theorem slabNewLaw_walk (n c : Int) (hn : (Lit.int .i64 n).wf = true) (hc : (Lit.int .i64 c).wf = true) (w : World) :
    Calls Try.prog 6 #[.int .i64 n, .int .i64 c] w fun e w' => e = .returned (.bool true) ∧ Below w.heap.size w w' := slabNewLaw_all n c w
theorem own_fnExactSlabNew : ownKnob Try.prog.godebug = none := by kernel_rfl
set_option maxRecDepth 100000 in
theorem lifted_fnExactSlabNew (os : Os) (started : os.Started) (H : Type) (enc : TypeId × Value → H) :
    ReturnsInHanded {} Try.checked os 6 .any (Rows.fnExactSlabNewSpec.pre6 enc Try.prog Try.f6 Rows.fnExactSlabNewRow.domain false) (Rows.fnExactSlabNewSpec.post enc Try.prog Try.f6 false true false false) := by
  refine returnsInHanded_of_change (C := Try.checked) own_fnExactSlabNew started (by kernel_rfl) Try.func6
    (ChangeSpec.witness6 (enc := enc) (C := Try.checked) false ⟨#[], #[.int .i64 0, .int .i64 0], []⟩ 8 (by kernel_rfl) (by kernel_rfl) (by kernel_rfl) (by kernel_rfl)) ?_
  intro W base args ds gs before hval0 hW hcnd _
  have hval : ∀ (j : Nat) t v, Try.f6.params[j]? = some t → args[j]? = some v → Value.okWide Try.prog W .any base t v := hval0
  have hW' := hW
  obtain ⟨p, q, hA0, hV, rfl, hfz, hnd⟩ := hW
  have hA : DataW.TrodAll enc Try.prog W 0 (fun _ => true) true Try.f6.params.toList args.toList ds p := hA0
  rw [Try.params6] at hA hval
  obtain ⟨v0, vs0, d0, ds0, p0, q0, hargs, rfl, rfl, h0, r0⟩ := trodAll_cons hA
  obtain ⟨v1, vs1, d1, ds1, p1, q1, rfl, rfl, rfl, h1, r1⟩ := trodAll_cons r0
  obtain ⟨rfl, rfl, rfl⟩ := trodAll_nil r1
  obtain rfl : args = #[v0, v1] := by cases args; simp_all
  obtain ⟨rfl, rfl⟩ := trodVars_none hV
  obtain ⟨a0, rfl, rfl, rfl, w0⟩ := open_int Try.underlying2 (hval 0 2 v0 rfl rfl) h0
  obtain ⟨a1, rfl, rfl, rfl, w1⟩ := open_int Try.underlying2 (hval 1 2 v1 rfl rfl) h1
  clear hA0 hval0
  simp only [List.append_nil] at hW'
  refine (slabNewLaw_walk a0 a1 w0 w1 W).mono fun e W' ⟨he, bel⟩ => ?_
  subst he
  exact ⟨_, rfl, _, _, _, [], [], [], hW', trodAll_mk1 (shut_bool Try.underlying4 _), (trodAll_cons_mk (shut_int Try.underlying2 w0) (trodAll_cons_mk (shut_int Try.underlying2 w1) trodAll_mk0)), rfl, bel.frame _, fun h => by cases h⟩

theorem slabNew_holds : Rows.FnExactSlabNewSaid :=
  OpenClaim.holds_of_wide 6 Try.f6 rfl rfl rfl rfl rfl rfl rfl ⟨rfl, rfl, rfl, rfl, rfl⟩ rfl rfl rfl rfl rfl (by kernel_rfl) Try.func6 (by kernel_rfl)
    (of_decide_eq_true (by kernel_rfl)) (by unfold Func.isWrapper; first | (rw [if_pos (by decide +kernel)]; kernel_rfl) | (rw [if_neg (by decide +kernel)]; exact ⟨rfl, rfl⟩))
    (fun os started H enc _ => lifted_fnExactSlabNew os started H enc)
#print axioms slabNew_holds
end Go.Proofs.Ytcakaoglpfokkai
