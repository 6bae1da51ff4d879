/- Proved here: laws.FnExactChainOf returns true at every argument, and each argument reads afterwards as before (no conditions). -/
import Derived.Test.YtcakaoglpfokkajOpenSlab
import Derived.Test.YtcakaoglpfokkajLawsSlab3
import Derived.Test.YtcakaoglpfokkajSlabChainS
import Derived.Test.YtcakaoglpfokkajSlabChainI
import Derived.Test.YtcakaoglpfokkajSlabRows
import Derived.Test.YtcakaoglpfokkajKinds
import Derived.Test.YtcakaoglpfokkajGrowRes
import Derived.Test.YtcakaoglpfokkajGrowCases
import Derived.WalkKit
import Derived.WalkSpells
import Derived.ProofKit
import Derived.OpenShut
import Derived.ShutString
import Derived.Handy
import Derived.Below
import Derived.ChangeOld
namespace Go.Proofs.Ytcakaoglpfokkaj
open Go.ChangeShapes Go.WideShapes Go.ChangeAt Go.RowKit
set_option linter.unusedVariables false
set_option linter.unusedSimpArgs false
set_option maxRecDepth 100000

/-- a new slab -/
def slabK (lo : Nat) (s : Slb) : Kp := fun v W => ∃ (bS bH : Option Addr) (hi : Nat), v = .agg #[.slice bS s.slots.length s.slots.length, .slice bH s.heads.length s.heads.length] ∧ SlabO lo hi bS bH s W
theorem chainAns_len {s : Slb} {c : Int} : (chainAns s c).length ≤ 1048576 := by
  unfold chainAns
  split
  · rename_i h
    unfold chainB at h
    simp only [Bool.and_eq_true] at h
    obtain ⟨_, n1, n2, n3, n4⟩ := right_leads h.1
    have := chain_len s (s.slots.length + 1) (s.heads.getD c.toNat 0)
    unfold chainOf
    omega
  · simp
theorem markd_own {lo hi : Nat} {a : Option Addr} {l : List Int} {w w' : World} (h : OwnR lo hi a l w) (hm : Markd a l.length 1 w w') : OwnR lo hi a (marks 1 l.length) w' ∧ Mid lo hi w w' := by
  rcases hm with ⟨h0, rfl⟩ | ⟨h0, b, o, e, hr, ht⟩
  · exact ⟨.inl (by rw [h0]; rfl), Mid.refl _ _ _⟩
  · rcases h with e2 | ⟨b', o', e2, q1, q2, q3⟩
    · rw [e2] at h0; simp at h0
    · rw [e] at e2
      injection e2 with e2; injection e2 with e3 e4
      subst e3 e4
      exact ⟨.inr ⟨b, o, e, q1, q2, hr⟩, ht.mid q1 q2⟩
theorem own_or {lo hi : Nat} {a : Option Addr} {l : List Int} {w : World} (h : OwnR lo hi a l w) : l = [] ∨ ∃ b o, a = some ⟨b, o, none⟩ ∧ RowB b o l w := by
  rcases h with e | ⟨b, o, e, _, _, q⟩
  · exact .inl e
  · exact .inr ⟨b, o, e, q⟩
set_option maxHeartbeats 8000000 in
theorem chainOfLaw_all (aS aH : Option Addr) (cS cH : Nat) (s : Slb) (c : Int) (w : World) (hz : SlabZ aS aH s w) (hf : SlabFit s) (m1 : s.slots.length ≤ maxLen) (m2 : s.heads.length ≤ maxLen) :
    Calls Try.prog 6 #[.agg #[.slice aS s.slots.length cS, .slice aH s.heads.length cH], .int .i64 c] w fun e w' => e = .returned (.bool true) ∧ Below w.heap.size w w' := by
  have m1' : s.slots.length ≤ 9223372036854775807 := m1
  have m2' : s.heads.length ≤ 9223372036854775807 := m2
  have HZ := hidS hz
  have HFT := hidS hf
  clear hz hf m1 m2
  by_cases hbig : 1048576 < s.slots.length + s.heads.length
  · have HSZ := hidS (fun W => szSlab_big aS aH cS cH s W m1' m2' hbig)
    have hL0 := hidS ((Below.refl w.heap.size w).alloc (Nat.le_refl _) (.cells #[.slice aS s.slots.length cS, .slice aH s.heads.length cH] 25))
    go_enter Try.func6, Try.ntmps6
    go_wp2_with fail
    refine (HSZ.out _).mono ?_
    rintro _ w1 ⟨⟨r, rfl, hr⟩, hb1⟩
    have hL1 := hidS (hL0.out.trans (hb1.mono hL0.out.size))
    clear hb1 hL0
    go_wp2_with fail
    go_ret
    exact ⟨rfl, hL1.out⟩
  have HSZ := hidS (fun W => szSlab_ok aS aH cS cH s W m1' m2' hbig)
  have h1 : s.slots.length ≤ 1048576 := by omega
  have h2 : s.heads.length ≤ 1048576 := by omega
  have HTO := hidS (fun W (h : Below w.heap.size w W) => toSlab_any aS aH cS cH s W (HZ.out.later h) h1 h2)
  have HSP := hidS (fun (bS bH : Option Addr) (W : World) (h : SlabZ bS bH s W) => specChainOf_any bS bH s.slots.length s.heads.length s c W h h1 h2)
  have HIM := hidS (fun (bS bH : Option Addr) (W : World) (h : SlabZ bS bH s W) => implChainOf_any bS bH s.slots.length s.heads.length s c W h HFT.out h1 h2)
  have t1 : (chainAns s c).length ≤ 1048576 := chainAns_len
  generalize chainAns s c = t at HSP HIM t1
  have HEX := hidS (fun (bS bH bS' bH' : Option Addr) (W : World) (h : SlabZ bS bH s W) (h' : SlabZ bS' bH' s W) => eqSlab_any bS bH bS' bH' s.slots.length s.heads.length s.slots.length s.heads.length s W h h' h1 h2)
  have HEQ := hidS (fun (a a' : Option Addr) (k1 k2 : Nat) (W : World) (h : RowZ a t W) (h' : RowZ a' t W) => eqInts_any a a' k1 k2 t W h h' t1)
  have HMX := hidS (fun (lo hi : Nat) (bS bH : Option Addr) (W : World) (h : SlabO lo hi bS bH s W) (hh : hi ≤ W.heap.size) => markSlab_any lo hi bS bH s.slots.length s.heads.length s 1 W h hh h1 h2 (by omega) (by omega))
  have HMG : Hid (∀ (lo hi : Nat) (a : Option Addr) (k1 : Nat) (W : World), OwnR lo hi a t W → Calls Try.prog 24 #[.slice a t.length k1, .int .i64 1] W fun e w' => e = .returned (.int .i64 (1 + t.length)) ∧ OwnR lo hi a (marks 1 t.length) w' ∧ Mid lo hi W w') := hidS (fun lo hi a k1 W h => (markInts_own a k1 t 1 W (own_or h) t1 (by omega) (by omega)).mono (fun e w' hh => ⟨hh.1, (markd_own h hh.2).1, (markd_own h hh.2).2⟩))
  have HHE := hidS (fun (a : Option Addr) (k1 : Nat) (W : World) (h : RowZ a (marks 1 t.length) W) => heldInts_any a k1 t.length 1 W h t1 (by omega) (by omega))
  have hk1 : ¬ (1 + 4 * (s.slots.length : Int) + (s.heads.length : Int)) < 0 := by omega
  have hk2 : ¬ (1 + (t.length : Int)) < 0 := by omega
  clear m1' m2' hbig
  have hGA0 := hidS (heap_newG w (.cells #[.slice aS s.slots.length cS, .slice aH s.heads.length cH] 25))
  have hL0 := hidS ((Below.refl w.heap.size w).alloc (Nat.le_refl _) (.cells #[.slice aS s.slots.length cS, .slice aH s.heads.length cH] 25))
  go_enter Try.func6, Try.ntmps6
  go_wp2_with fail
  refine (HSZ.out _).mono ?_
  rintro _ w1 ⟨⟨r, rfl, hr0, hr1⟩, hb1⟩
  have hr2 : ¬ r < 0 := by omega
  have hGA1 := hidS (blk_later hGA0.out hb1)
  have hL1 := hidS (hL0.out.trans (hb1.mono hL0.out.size))
  clear hGA0 hL0 hb1
  clear HSZ
  have a0 := blk_cell hGA1.out 0
  have a1 := blk_cell hGA1.out 1
  simp at a0 a1
  go_wp2_with fail
  refine (HTO.out _ hL1.out).mono ?_
  rintro _ w2 ⟨bpS, bpH, rfl, hO2, hb2⟩
  have G00 : Hid (w.heap.size < w2.heap.size) := hidS (Nat.lt_of_lt_of_le (blk_lt hGA1.out) hb2.size)
  have g0 := G00.out
  have HO2 := hidS hO2.read
  clear hO2 a0 a1
  have hGA2 := hidS (blk_later hGA1.out hb2)
  have hL2 := hidS (hL1.out.trans (hb2.mono hL1.out.size))
  clear hGA1 hL1 hb2
  go_wp2_with fail
  refine (HSP.out _ _ _ HO2.out).mono ?_
  rintro _ w3 ⟨bw, kw, rfl, hOW, hb3⟩
  have HOW3 := hidS hOW
  clear HO2 hOW
  have b3 := hb3.size
  have hGA3 := hidS (blk_later hGA2.out hb3)
  have hL3 := hidS (hL2.out.trans (hb3.mono hL2.out.size))
  clear hGA2 hL2 hb3
  have a0 := blk_cell hGA3.out 0
  have a1 := blk_cell hGA3.out 1
  simp at a0 a1
  go_wp2_with fail
  refine (HTO.out _ hL3.out).mono ?_
  rintro _ w4 ⟨bxS, bxH, rfl, hOX, hb4⟩
  have HOX4 := hidS hOX
  have b4 := hb4.size
  clear hOX a0 a1
  have hGA4 := hidS (blk_later hGA3.out hb4)
  have HOW4 := hidS (HOW3.out.later hb4)
  have hL4 := hidS (hL3.out.trans (hb4.mono hL3.out.size))
  clear hGA3 HOW3 hL3 hb4
  have hGA5 := hidS (blk_alloc hGA4.out (.cells #[.slice bxS s.slots.length s.slots.length, .slice bxH s.heads.length s.heads.length] 29))
  have HOW5 := hidS (HOW4.out.later ((Below.refl w4.heap.size w4).alloc (Nat.le_refl _) (.cells #[.slice bxS s.slots.length s.slots.length, .slice bxH s.heads.length s.heads.length] 29)))
  have HOX5 := hidS (HOX4.out.later ((Below.refl w4.heap.size w4).alloc (Nat.le_refl _) (.cells #[.slice bxS s.slots.length s.slots.length, .slice bxH s.heads.length s.heads.length] 29)))
  have hGX5 := hidS (heap_newG w4 (.cells #[.slice bxS s.slots.length s.slots.length, .slice bxH s.heads.length s.heads.length] 29))
  have hL5 := hidS (hL4.out.alloc hL4.out.size (.cells #[.slice bxS s.slots.length s.slots.length, .slice bxH s.heads.length s.heads.length] 29))
  have z5 : (w4.alloc (.cells #[.slice bxS s.slots.length s.slots.length, .slice bxH s.heads.length s.heads.length] 29)).heap.size = w4.heap.size + 1 := by simp
  clear hGA4 HOW4 HOX4 hL4
  go_upto_region 7 with fail
  generalize w4.alloc (.cells #[.slice bxS s.slots.length s.slots.length, .slice bxH s.heads.length s.heads.length] 29) = w5 at hGA5 HOW5 HOX5 hGX5 hL5 z5 ⊢
  have x0 := blk_cell hGX5.out 0
  have x1 := blk_cell hGX5.out 1
  simp at x0 x1
  go_wp2_with fail
  refine (HIM.out _ _ _ HOX5.out.read).mono ?_
  rintro _ w6 ⟨bg, kg, rfl, hOG, hb6⟩
  have HOG6 := hidS hOG
  have b6 := hb6.size
  clear hOG x0 x1
  have hGA6 := hidS (blk_later hGA5.out hb6)
  have HOW6 := hidS (HOW5.out.later hb6)
  have HOX6 := hidS (HOX5.out.later hb6)
  have hGX6 := hidS (blk_later hGX5.out hb6)
  have hL6 := hidS (hL5.out.trans (hb6.mono hL5.out.size))
  clear hGA5 HOW5 HOX5 hGX5 hL5 hb6
  generalize w2.heap.size = L0 at *
  generalize w3.heap.size = L1 at *
  generalize w4.heap.size = L3 at *
  generalize w5.heap.size = L4 at *
  have HL5 : Hid (w6.heap.size ≤ w6.heap.size) := hidS (Nat.le_refl _)
  obtain ⟨L5, hL5e⟩ : ∃ L5, w6.heap.size = L5 := ⟨_, rfl⟩
  rw [hL5e] at HOG6 b6
  have HL5E : Hid (L5 ≤ w6.heap.size) := hidS (by omega)
  have LL : Hid (w.heap.size < L0 ∧ L0 ≤ L1 ∧ L1 ≤ L3 ∧ L3 < L4 ∧ L4 ≤ L5) := hidS ⟨G00.out, b3, b4, by omega, b6⟩
  clear g0 b3 b4 b6 z5 hL5e HL5
  go_wp2_with fail
  refine (HEQ.out _ _ _ _ _ HOG6.out.read HOW6.out.read).mono ?_
  rintro _ w7 ⟨rfl, hb7⟩
  have HL7 := hidS (Nat.le_trans HL5E.out hb7.size)
  have hGA7 := hidS (blk_later hGA6.out hb7)
  have HOW7 := hidS (HOW6.out.later hb7)
  have HOX7 := hidS (HOX6.out.later hb7)
  have hGX7 := hidS (blk_later hGX6.out hb7)
  have HOG7 := hidS (HOG6.out.later hb7)
  have hL7 := hidS (hL6.out.trans (hb7.mono hL6.out.size))
  clear hGA6 HOW6 HOX6 hGX6 HOG6 hL6 hb7
  go_wp2_with fail
  refine grow_res (fun W => Below w7.heap.size w7 W) (fun W W' => Below W.heap.size W W') (kpOf [isP (.agg #[.slice bxS s.slots.length s.slots.length, .slice bxH s.heads.length s.heads.length]), isP (.agg #[.slice aS s.slots.length cS, .slice aH s.heads.length cH]), slabK w7.heap.size s, isP (.bool true), isP (.bool false)]) (by kernel_rfl) (by kernel_rfl) (all_lastB _ ⟨(fun v W W' h _ => h), (fun v W W' h _ => h), (fun v W W' h hR => by obtain ⟨bS, bH, hi, e, ho⟩ := h; exact ⟨bS, bH, hi, e, ho.later hR⟩), (fun v W W' h _ => h), (fun v W W' h _ => h), trivial⟩) (Below.refl _ _).drew ?stepsq ?finq
  case stepsq =>
    refine ⟨?_, ?_, ?_, ?_, ?_, trivial⟩
    · refine ⟨rfl, fun v W ρ hC kc kf ks ki kd => ?_⟩
      have tp : ρ (.tmp 7) = .pointer (some ⟨L3, 0, none⟩) := ki 7 (by decide)
      have e0 := blk_cell (blk_later hGX7.out hC) 0
      have e1 := blk_cell (blk_later hGX7.out hC) 1
      simp at e0 e1
      simp [execOp, go_sem, tp, e0, e1]
      simp only [RanS]
      exact ⟨hC, Below.refl _ _, rfl⟩
    · refine ⟨rfl, fun v W ρ hC kc kf ks ki kd => ?_⟩
      have tp : ρ (.tmp 2) = .pointer (some ⟨w.heap.size, 0, none⟩) := ki 2 (by decide)
      have e0 := blk_cell (blk_later hGA7.out hC) 0
      have e1 := blk_cell (blk_later hGA7.out hC) 1
      simp at e0 e1
      simp [execOp, go_sem, tp, e0, e1]
      simp only [RanS]
      exact ⟨hC, Below.refl _ _, rfl⟩
    · refine ⟨rfl, fun v W ρ hC kc kf ks ki kd => ?_⟩
      have d1 : v 1 = .agg #[.slice aS s.slots.length cS, .slice aH s.heads.length cH] := by first | exact kd _ (mem0 rfl) rfl | exact kd _ (mem1 rfl) rfl | exact kd _ (mem2 rfl) rfl
      have t1 : ρ (.tmp 32) = .agg #[.slice aS s.slots.length cS, .slice aH s.heads.length cH] := (ks 1 32 (by decide) rfl).trans d1
      simp [execOp, go_sem, t1, kf]
      simp only [RanS]
      refine Calls.mono (HTO.out W (hL7.out.trans (hC.mono hL7.out.size))) (fun e x h => ?_)
      obtain ⟨bS, bH, rfl, ho, hb⟩ := h
      have hC2 : Below w7.heap.size w7 x := hC.trans (hb.mono hC.size)
      exact ⟨_, rfl, hC2, hb, bS, bH, x.heap.size, rfl, ho.low hC.size⟩
    · refine ⟨rfl, fun v W ρ hC kc kf ks ki kd => ?_⟩
      have d0 : v 0 = .agg #[.slice bxS s.slots.length s.slots.length, .slice bxH s.heads.length s.heads.length] := by first | exact kd _ (mem0 rfl) rfl | exact kd _ (mem1 rfl) rfl | exact kd _ (mem2 rfl) rfl
      have t0 : ρ (.tmp 31) = .agg #[.slice bxS s.slots.length s.slots.length, .slice bxH s.heads.length s.heads.length] := (ks 0 31 (by decide) rfl).trans d0
      obtain ⟨bS, bH, hi, hv, ho⟩ : slabK w7.heap.size s (v 2) W := by first | exact kd _ (mem0 rfl) rfl | exact kd _ (mem1 rfl) rfl | exact kd _ (mem2 rfl) rfl
      have t2 : ρ (.tmp 33) = .agg #[.slice bS s.slots.length s.slots.length, .slice bH s.heads.length s.heads.length] := (ks 2 33 (by decide) rfl).trans hv
      simp [execOp, go_sem, t0, t2, kf]
      simp only [RanS]
      exact Calls.mono (HEX.out _ _ _ _ W (HOX7.out.later hC).read ho.read) (fun e x h => ⟨_, h.1, hC.trans (h.2.mono hC.size), h.2, rfl⟩)
    · refine ⟨rfl, fun v W ρ hC kc kf ks ki kd => ?_⟩
      have d3 : v 3 = .bool true := by first | exact kd _ (mem0 rfl) rfl | exact kd _ (mem1 rfl) rfl | exact kd _ (mem2 rfl) rfl
      have t3 : ρ (.tmp 34) = .bool true := (ks 3 34 (by decide) rfl).trans d3
      simp [execOp, go_sem, t3]
      simp only [RanS]
      exact ⟨hC, Below.refl _ _, rfl⟩
  intro v8 w8 hb8 hall
  have hv8 : v8 4 = .bool false := hall 4 (by decide)
  simp [upto, Act.put]
  rw [hv8]
  clear hall hv8
  have HL8 := hidS (Nat.le_trans HL7.out hb8.size)
  have hGA8 := hidS (blk_later hGA7.out hb8)
  have HOW8 := hidS (HOW7.out.later hb8)
  have HOX8 := hidS (HOX7.out.later hb8)
  have hGX8 := hidS (blk_later hGX7.out hb8)
  have HOG8 := hidS (HOG7.out.later hb8)
  have hL8 := hidS (hL7.out.trans (hb8.mono hL7.out.size))
  clear hGA7 HOW7 HOX7 hGX7 HOG7 hL7 hb8
  have x0 := blk_cell hGX8.out 0
  have x1 := blk_cell hGX8.out 1
  simp at x0 x1
  go_wp2_with fail
  refine (HMX.out L1 L3 _ _ _ HOX8.out (Nat.le_of_lt (blk_lt hGX8.out))).mono ?_
  rintro _ w9 ⟨rfl, _, _, hm9⟩
  have l := LL.out
  have HL9 := hidS (Nat.le_trans HL8.out hm9.size)
  clear x0 x1
  have hGA9 := hidS ((hm9.block _ (blk_lt hGA8.out) (by omega)).trans hGA8.out)
  have HOW9 := hidS (HOW8.out.apart hm9 (by omega))
  have hGX9 := hidS ((hm9.block _ (blk_lt hGX8.out) (by omega)).trans hGX8.out)
  have HOG9 := hidS (HOG8.out.apart hm9 (by omega))
  have hL9 := hidS (hL8.out.trans (hm9.below (by omega) hL8.out.size))
  clear hGA8 HOW8 HOX8 hGX8 HOG8 hL8 hm9
  clear l
  go_wp2_with fail
  refine (HEQ.out _ _ _ _ _ HOG9.out.read HOW9.out.read).mono ?_
  rintro _ w10 ⟨rfl, hb10⟩
  have hGA10 := hidS (blk_later hGA9.out hb10)
  have HOW10 := hidS (HOW9.out.later hb10)
  have hGX10 := hidS (blk_later hGX9.out hb10)
  have HOG10 := hidS (HOG9.out.later hb10)
  have hL10 := hidS (hL9.out.trans (hb10.mono hL9.out.size))
  clear hGA9 HOW9 hGX9 HOG9 hL9 hb10
  go_wp2_with fail
  refine (HMG.out _ _ _ _ _ HOG10.out).mono ?_
  rintro _ w11 ⟨rfl, hRG, hm11⟩
  have HRG11 := hidS hRG
  have l := LL.out
  clear hRG
  have hGA11 := hidS ((hm11.block _ (blk_lt hGA10.out) (by omega)).trans hGA10.out)
  have HOW11 := hidS (HOW10.out.apart hm11 (by omega))
  have hGX11 := hidS ((hm11.block _ (blk_lt hGX10.out) (by omega)).trans hGX10.out)
  have hL11 := hidS (hL10.out.trans (hm11.below (by omega) hL10.out.size))
  clear hGA10 HOW10 hGX10 HOG10 hL10 hm11
  clear l
  go_wp2_with fail
  refine (HHE.out _ _ _ HRG11.out.read).mono ?_
  rintro _ v12 ⟨rfl, hv12⟩
  rw [hv12]
  clear hv12 v12
  have a0 := blk_cell hGA11.out 0
  have a1 := blk_cell hGA11.out 1
  simp at a0 a1
  go_wp2_with fail
  refine (HTO.out _ hL11.out).mono ?_
  rintro _ w12 ⟨bpS, bpH, rfl, hO12, hb12⟩
  have HOP12 := hidS hO12.read
  clear hO12 a0 a1
  have hGA12 := hidS (blk_later hGA11.out hb12)
  have HOW12 := hidS (HOW11.out.later hb12)
  have hGX12 := hidS (blk_later hGX11.out hb12)
  have HRG12 := hidS (HRG11.out.later hb12)
  have hL12 := hidS (hL11.out.trans (hb12.mono hL11.out.size))
  clear hGA11 HOW11 hGX11 HRG11 hL11 hb12
  go_wp2_with fail
  refine (HIM.out _ _ _ HOP12.out).mono ?_
  rintro _ w13 ⟨bh, kh, rfl, hOH, hb13⟩
  have HOH13 := hidS hOH.read
  clear hOH HOP12
  have hGA13 := hidS (blk_later hGA12.out hb13)
  have HOW13 := hidS (HOW12.out.later hb13)
  have hGX13 := hidS (blk_later hGX12.out hb13)
  have HRG13 := hidS (HRG12.out.later hb13)
  have hL13 := hidS (hL12.out.trans (hb13.mono hL12.out.size))
  clear hGA12 HOW12 hGX12 HRG12 hL12 hb13
  go_wp2_with fail
  refine (HEQ.out _ _ _ _ _ HOH13.out HOW13.out.read).mono ?_
  rintro _ w14 ⟨rfl, hb14⟩
  have hGA14 := hidS (blk_later hGA13.out hb14)
  have HOW14 := hidS (HOW13.out.later hb14)
  have hGX14 := hidS (blk_later hGX13.out hb14)
  have HRG14 := hidS (HRG13.out.later hb14)
  have hL14 := hidS (hL13.out.trans (hb14.mono hL13.out.size))
  clear hGA13 HOW13 hGX13 HRG13 HOH13 hL13 hb14
  go_wp2_with fail
  refine (HHE.out _ _ _ HRG14.out.read).mono ?_
  rintro _ v15 ⟨rfl, hv15⟩
  rw [hv15]
  clear hv15 v15
  go_wp2_with fail
  go_ret
  exact ⟨rfl, hL14.out⟩
theorem chainOfLaw_walk (aS aH : Option Addr) (cS cH : Nat) (s : Slb) (c : Int) (w : World) (hz : SlabZ aS aH s w) (hf : SlabFit s) (m1 : s.slots.length ≤ maxLen) (m2 : s.heads.length ≤ maxLen) (hk : (Lit.int .i64 c).wf = true) :
    Calls Try.prog 6 #[.agg #[.slice aS s.slots.length cS, .slice aH s.heads.length cH], .int .i64 c] w fun e w' => e = .returned (.bool true) ∧ Below w.heap.size w w' := chainOfLaw_all aS aH cS cH s c w hz hf m1 m2
theorem laidOut_fnExactChainOf : laidOutB Try.prog = true := by kernel_rfl
theorem own_fnExactChainOf : ownKnob Try.prog.godebug = none := by kernel_rfl
set_option maxRecDepth 100000 in
theorem lifted_fnExactChainOf (os : Os) (started : os.Started) (H : Type) (enc : TypeId × Value → H) :
    ReturnsInHanded {} Try.checked os 6 .any (Rows.fnExactChainOfSpec.pre6 enc Try.prog Try.f6 Rows.fnExactChainOfRow.domain false) (Rows.fnExactChainOfSpec.post enc Try.prog Try.f6 false true false false) := by
  refine returnsInHanded_of_change (C := Try.checked) own_fnExactChainOf started (by kernel_rfl) Try.func6
    (ChangeSpec.witness6 (enc := enc) (C := Try.checked) false ⟨#[], #[.agg #[.slice none 0 0, .slice none 0 0], .int .i64 0], []⟩ 8 (by kernel_rfl) (by kernel_rfl) (by kernel_rfl) (by kernel_rfl)) ?_
  intro W base args ds gs before hval0 hW hcnd _
  have hval : ∀ (j : Nat) t v, Try.f6.params[j]? = some t → args[j]? = some v → Value.okWide Try.prog W .any base t v := hval0
  have hW' := hW
  obtain ⟨p, q, hA0, hV, rfl, hfz, hnd⟩ := hW
  have hA : DataW.TrodAll enc Try.prog W 0 (fun _ => true) true Try.f6.params.toList args.toList ds p := hA0
  rw [Try.params6] at hA hval
  obtain ⟨v0, vs0, d0, ds0, p0, q0, hargs, rfl, rfl, h0, r0⟩ := trodAll_cons hA
  obtain ⟨v1, vs1, d1, ds1, p1, q1, rfl, rfl, rfl, h1, r1⟩ := trodAll_cons r0
  obtain ⟨rfl, rfl, rfl⟩ := trodAll_nil r1
  obtain rfl : args = #[v0, v1] := by cases args; simp_all
  obtain ⟨rfl, rfl⟩ := trodVars_none hV
  have k0 := h0
  have lt0 : ∀ x ∈ p0, x.block < W.heap.size := by obtain ⟨m, hm⟩ := k0; exact DataW.trod_lt m _ _ _ hm
  obtain ⟨aS0, aH0, cS0, cH0, s0, rfl, z0, f0, m0, n0⟩ := open_slab (hval 0 25 v0 rfl rfl) h0
  obtain ⟨a1, rfl, rfl, rfl, w1⟩ := open_int Try.underlying2 (hval 1 2 v1 rfl rfl) h1
  clear hA0 hval0
  refine (chainOfLaw_walk aS0 aH0 cS0 cH0 s0 a1 W z0 f0 m0 n0 w1).mono fun e W' ⟨he, bel⟩ => ?_
  subst he
  exact ⟨_, rfl, _, _, _, [], _, [], hW', trodAll_mk1 (shut_bool Try.underlying4 _), (trodAll_cons_mk (Below.trod laidOut_fnExactChainOf (by kernel_rfl) (of_decide_eq_true (by kernel_rfl)) k0 bel lt0) (trodAll_cons_mk (shut_int Try.underlying2 w1) trodAll_mk0)), rfl, bel.frame _, fun h => by cases h⟩

theorem chainOf_holds : Rows.FnExactChainOfSaid :=
  OpenClaim.holds_of_wide 6 Try.f6 rfl rfl rfl rfl rfl rfl rfl ⟨rfl, rfl, rfl, rfl, rfl⟩ rfl rfl rfl rfl rfl (by kernel_rfl) Try.func6 (by kernel_rfl)
    (of_decide_eq_true (by kernel_rfl)) (by unfold Func.isWrapper; first | (rw [if_pos (by decide +kernel)]; kernel_rfl) | (rw [if_neg (by decide +kernel)]; exact ⟨rfl, rfl⟩))
    (fun os started H enc _ => lifted_fnExactChainOf os started H enc)
#print axioms chainOf_holds
end Go.Proofs.Ytcakaoglpfokkaj
