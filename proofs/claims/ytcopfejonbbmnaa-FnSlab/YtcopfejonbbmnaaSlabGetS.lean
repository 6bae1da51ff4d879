/- Proved here: spec.SlabGet answers the slab with one holder more at a slot, in memory of its own, or a code; all old memory stays (conditions: the slab's rows can be read; at most 2^20 numbers). -/
import Derived.Test.YtcopfejonbbmnaaAll27
import Derived.Test.YtcopfejonbbmnaaAll22
import Derived.Test.YtcopfejonbbmnaaAll18
import Derived.Test.YtcopfejonbbmnaaSlabCopyS
import Derived.BigRegion
namespace Go.Proofs.Ytcopfejonbbmnaa
open Go.ChangeShapes Go.WideShapes Go.ChangeAt Go.RowKit
set_option linter.unusedVariables false
set_option linter.unusedSimpArgs false
set_option maxRecDepth 100000

set_option maxHeartbeats 4000000 in
theorem specSlabGet_any (aS aH : Option Addr) (cS cH : Nat) (s : Slb) (c : Int) (w : World) (hR : SlabZ aS aH s w) (h1 : s.slots.length ≤ 1048576) (h2 : s.heads.length ≤ 1048576) :
    Calls Try.prog 17 #[.agg #[.slice aS s.slots.length cS, .slice aH s.heads.length cH], .int .i64 c] w fun e w' => OutAns (getS s c) (getA s c) (getC s c) w e w' := by
  have HS := hidS (fun W (h : Below w.heap.size w W) => l06Begin_any aS aH cS cH s c W (hR.later h) h1 h2)
  have HI := hidS (fun c W => l06Ill_any c W)
  by_cases hb : beginAns s c = 0
  case neg =>
    have EC : Hid (getC s c = beginAns s c) := by show _ = _; unfold getC; rw [if_neg hb]
    have ES : Hid (getS s c = ⟨[], []⟩) := by show _ = _; unfold getS; rw [EC.out, if_neg hb]
    have EA : Hid (getA s c = 0) := by show _ = _; unfold getA; rw [EC.out, if_neg hb]
    rw [ES.out, EA.out, EC.out]
    clear ES EA EC
    generalize beginAns s c = q at HS hb ⊢
    have hbb : (q == 0) = false := beq_eq_false_iff_ne.2 hb
    refine Calls.mono (R := fun e w' => e = .returned (.agg #[.slice none 0 0, .slice none 0 0, .int .i64 0, .int .i64 q]) ∧ Below w.heap.size w w') ?_ (fun e x h => ill_out h)
    clear hR
    have hGA0 : Hid (((w.alloc (.cells #[.slice aS s.slots.length cS, .slice aH s.heads.length cH] 26)).alloc (.cells #[.slice none 0 0, .slice none 0 0, .int .i64 0, .int .i64 0] 30)).heap[w.heap.size]? = some (.cells #[.slice aS s.slots.length cS, .slice aH s.heads.length cH] 26)) := by
      show _ = _
      have := blk_alloc (heap_newG w (.cells #[.slice aS s.slots.length cS, .slice aH s.heads.length cH] 26)) (.cells #[.slice none 0 0, .slice none 0 0, .int .i64 0, .int .i64 0] 30)
      simpa using this
    have hGR0 : Hid (((w.alloc (.cells #[.slice aS s.slots.length cS, .slice aH s.heads.length cH] 26)).alloc (.cells #[.slice none 0 0, .slice none 0 0, .int .i64 0, .int .i64 0] 30)).heap[w.heap.size + 1]? = some (.cells #[.slice none 0 0, .slice none 0 0, .int .i64 0, .int .i64 0] 30)) := by
      show _ = _
      have := heap_newG (w.alloc (.cells #[.slice aS s.slots.length cS, .slice aH s.heads.length cH] 26)) (.cells #[.slice none 0 0, .slice none 0 0, .int .i64 0, .int .i64 0] 30)
      simpa using this
    have hL0 := hidS (((Below.refl w.heap.size w).alloc (Nat.le_refl _) (.cells #[.slice aS s.slots.length cS, .slice aH s.heads.length cH] 26)).alloc (by simp) (.cells #[.slice none 0 0, .slice none 0 0, .int .i64 0, .int .i64 0] 30))
    go_enter Try.func17, Try.ntmps17
    go_wp2_with fail
    refine (HS.out _ hL0.out).mono ?_
    rintro _ w1 ⟨rfl, hb1⟩
    have hGA1 := hidS (blk_later hGA0.out hb1)
    have hGR1 := hidS (blk_later hGR0.out hb1)
    have hL1 := hidS (hL0.out.trans (hb1.mono hL0.out.size))
    clear hb1 hL0 hGA0 hGR0
    have cA0 := blk_cell hGA1.out 0
    have cA1 := blk_cell hGA1.out 1
    simp at cA0 cA1
    go_wp2_with fail
    refine (HI.out q _).mono ?_
    rintro _ w2 ⟨rfl, hb2⟩
    clear cA0 cA1
    have hGA2 := hidS (blk_later hGA1.out hb2)
    have hGR2 := hidS (blk_later hGR1.out hb2)
    have hL2 := hidS (hL1.out.trans (hb2.mono hL1.out.size))
    clear hb2 hL1 hGA1 hGR1
    have kR := blk_cell hGR2.out
    have fR := blk_free hGR2.out
    go_wp2_with fail
    refine bodyPost_ret (v := .agg #[.slice none 0 0, .slice none 0 0, .int .i64 0, .int .i64 q]) (by simp [results, Try.results17, go_sem, *]) rfl ⟨rfl, ?_⟩
    repeat (refine below_at ?_ (by omega))
    exact hL2.out
  obtain ⟨hr, hc0, hc1⟩ := begin_at hb
  obtain ⟨C, rfl⟩ : ∃ C : Nat, c = C := ⟨c.toNat, by omega⟩
  have hC : C < s.slots.length := by omega
  have hCC : (0 : Int) ≤ (C : Int) ∧ (C : Int) < (s.slots.length : Int) := by omega
  obtain ⟨x, hx⟩ : ∃ x, s.slots.getD C zeroSlt = x := ⟨_, rfl⟩
  have EX : Hid (slotN s (C : Int) = x) := by show _ = _; rw [slot_nat]; exact hx
  have HR := hidS hR
  rw [hb] at HS
  by_cases hf : 1000000 ≤ x.refs
  case pos =>
    have EC : Hid (getC s (C : Int) = 9) := by show _ = _; unfold getC; rw [if_pos hb, EX.out, if_pos hf]
    have ES : Hid (getS s (C : Int) = ⟨[], []⟩) := by show _ = _; unfold getS; rw [EC.out, if_neg (by decide)]
    have EA : Hid (getA s (C : Int) = 0) := by show _ = _; unfold getA; rw [EC.out, if_neg (by decide)]
    rw [ES.out, EA.out, EC.out]
    clear ES EA EC
    refine Calls.mono (R := fun e w' => e = .returned (.agg #[.slice none 0 0, .slice none 0 0, .int .i64 0, .int .i64 9]) ∧ Below w.heap.size w w') ?_ (fun e x h => ill_out h)
    clear hR hb hr
    have hGA0 : Hid (((w.alloc (.cells #[.slice aS s.slots.length cS, .slice aH s.heads.length cH] 26)).alloc (.cells #[.slice none 0 0, .slice none 0 0, .int .i64 0, .int .i64 0] 30)).heap[w.heap.size]? = some (.cells #[.slice aS s.slots.length cS, .slice aH s.heads.length cH] 26)) := by
      show _ = _
      have := blk_alloc (heap_newG w (.cells #[.slice aS s.slots.length cS, .slice aH s.heads.length cH] 26)) (.cells #[.slice none 0 0, .slice none 0 0, .int .i64 0, .int .i64 0] 30)
      simpa using this
    have hGR0 : Hid (((w.alloc (.cells #[.slice aS s.slots.length cS, .slice aH s.heads.length cH] 26)).alloc (.cells #[.slice none 0 0, .slice none 0 0, .int .i64 0, .int .i64 0] 30)).heap[w.heap.size + 1]? = some (.cells #[.slice none 0 0, .slice none 0 0, .int .i64 0, .int .i64 0] 30)) := by
      show _ = _
      have := heap_newG (w.alloc (.cells #[.slice aS s.slots.length cS, .slice aH s.heads.length cH] 26)) (.cells #[.slice none 0 0, .slice none 0 0, .int .i64 0, .int .i64 0] 30)
      simpa using this
    have hL0 := hidS (((Below.refl w.heap.size w).alloc (Nat.le_refl _) (.cells #[.slice aS s.slots.length cS, .slice aH s.heads.length cH] 26)).alloc (by simp) (.cells #[.slice none 0 0, .slice none 0 0, .int .i64 0, .int .i64 0] 30))
    go_enter Try.func17, Try.ntmps17
    go_wp2_with fail
    refine (HS.out _ hL0.out).mono ?_
    rintro _ w1 ⟨rfl, hb1⟩
    have hGA1 := hidS (blk_later hGA0.out hb1)
    have hGR1 := hidS (blk_later hGR0.out hb1)
    have hL1 := hidS (hL0.out.trans (hb1.mono hL0.out.size))
    clear hb1 hL0 hGA0 hGR0
    have cA0 := blk_cell hGA1.out 0
    have cA1 := blk_cell hGA1.out 1
    simp at cA0 cA1
    obtain ⟨bS, oS, eS, lS, c0, c1, c2, c3⟩ := (HR.out.slots.later hL1.out).slot hC
    rw [hx] at c2
    rw [eS] at cA0
    clear c0 c1 c3 HR
    go_wp2_with fail
    refine (HI.out 9 _).mono ?_
    rintro _ w2 ⟨rfl, hb2⟩
    clear cA0 cA1 c2 hx
    have hGA2 := hidS (blk_later hGA1.out hb2)
    have hGR2 := hidS (blk_later hGR1.out hb2)
    have hL2 := hidS (hL1.out.trans (hb2.mono hL1.out.size))
    clear hb2 hL1 hGA1 hGR1
    have kR := blk_cell hGR2.out
    have fR := blk_free hGR2.out
    go_wp2_with fail
    refine bodyPost_ret (v := .agg #[.slice none 0 0, .slice none 0 0, .int .i64 0, .int .i64 9]) (by simp [results, Try.results17, go_sem, *]) rfl ⟨rfl, ?_⟩
    repeat (refine below_at ?_ (by omega))
    exact hL2.out
  have EC : Hid (getC s (C : Int) = 0) := by show _ = _; unfold getC; rw [if_pos hb, EX.out, if_neg hf]
  have ES : Hid (getS s (C : Int) = refS s (C : Int) (x.refs + 1)) := by show _ = _; unfold getS; rw [EC.out, if_pos rfl, EX.out]
  have EA : Hid (getA s (C : Int) = (C : Int)) := by show _ = _; unfold getA; rw [EC.out, if_pos rfl]
  rw [ES.out, EA.out, EC.out]
  clear ES EA EC
  obtain ⟨hLe, n1, n2, n3, n4⟩ := right_leads hr
  obtain ⟨bS, oS, rfl, _⟩ := hR.slots.slot hC
  obtain ⟨bH, oH, rfl, _⟩ := hR.heads 0 (by omega)
  have hx0 : 0 ≤ x.refs := by rw [← hx]; exact (refs_nat hr hC).1
  have HCP := hidS (fun W (h : Below w.heap.size w W) => l06Copy_any bS oS bH oH cS cH s W (hR.later h) n2 n4)
  clear hR hb hr hLe
  have hGA0 : Hid (((w.alloc (.cells #[.slice (some ⟨bS, oS, none⟩) s.slots.length cS, .slice (some ⟨bH, oH, none⟩) s.heads.length cH] 26)).alloc (.cells #[.slice none 0 0, .slice none 0 0, .int .i64 0, .int .i64 0] 30)).heap[w.heap.size]? = some (.cells #[.slice (some ⟨bS, oS, none⟩) s.slots.length cS, .slice (some ⟨bH, oH, none⟩) s.heads.length cH] 26)) := by
    show _ = _
    have := blk_alloc (heap_newG w (.cells #[.slice (some ⟨bS, oS, none⟩) s.slots.length cS, .slice (some ⟨bH, oH, none⟩) s.heads.length cH] 26)) (.cells #[.slice none 0 0, .slice none 0 0, .int .i64 0, .int .i64 0] 30)
    simpa using this
  have hGR0 : Hid (((w.alloc (.cells #[.slice (some ⟨bS, oS, none⟩) s.slots.length cS, .slice (some ⟨bH, oH, none⟩) s.heads.length cH] 26)).alloc (.cells #[.slice none 0 0, .slice none 0 0, .int .i64 0, .int .i64 0] 30)).heap[w.heap.size + 1]? = some (.cells #[.slice none 0 0, .slice none 0 0, .int .i64 0, .int .i64 0] 30)) := by
    show _ = _
    have := heap_newG (w.alloc (.cells #[.slice (some ⟨bS, oS, none⟩) s.slots.length cS, .slice (some ⟨bH, oH, none⟩) s.heads.length cH] 26)) (.cells #[.slice none 0 0, .slice none 0 0, .int .i64 0, .int .i64 0] 30)
    simpa using this
  have hL0 := hidS (((Below.refl w.heap.size w).alloc (Nat.le_refl _) (.cells #[.slice (some ⟨bS, oS, none⟩) s.slots.length cS, .slice (some ⟨bH, oH, none⟩) s.heads.length cH] 26)).alloc (by simp) (.cells #[.slice none 0 0, .slice none 0 0, .int .i64 0, .int .i64 0] 30))
  go_enter Try.func17, Try.ntmps17
  go_wp2_with fail
  refine (HS.out _ hL0.out).mono ?_
  rintro _ w1 ⟨rfl, hb1⟩
  have hGA1 := hidS (blk_later hGA0.out hb1)
  have hGR1 := hidS (blk_later hGR0.out hb1)
  have hL1 := hidS (hL0.out.trans (hb1.mono hL0.out.size))
  clear hb1 hL0 hGA0 hGR0
  have cA0 := blk_cell hGA1.out 0
  have cA1 := blk_cell hGA1.out 1
  simp at cA0 cA1
  obtain ⟨bS', oS', eS, lS, c0, c1, c2, c3⟩ := (HR.out.slots.later hL1.out).slot hC
  injection eS with eS; injection eS with eS1 eS2
  subst eS1 eS2
  rw [hx] at c2
  clear c0 c1 c3
  go_wp2_with fail
  refine (HCP.out _ hL1.out).mono ?_
  rintro _ w2 ⟨aS2, cS2, aH2, cH2, rfl, hO, hb2⟩
  clear cA0 cA1 c2 lS
  have hGA2 := hidS (blk_later hGA1.out hb2)
  have hGR2 := hidS (blk_later hGR1.out hb2)
  have hL2 := hidS (hL1.out.trans (hb2.mono hL1.out.size))
  have lA1 := blk_lt hGA1.out
  have lR1 := blk_lt hGR1.out
  clear hGA1 hGR1 hL1 hb2
  obtain ⟨b2, o2, rfl, p1, p2, p3⟩ : ∃ b o, aS2 = some ⟨b, o, none⟩ ∧ w1.heap.size ≤ b ∧ b < w2.heap.size ∧ RowB b o (flat s.slots) w2 := by
    rcases hO.slots with e | h
    · have := flat_len s.slots; rw [e] at this; simp at this; omega
    · exact h
  obtain ⟨b3, o3, rfl, q1, q2, q3⟩ : ∃ b o, aH2 = some ⟨b, o, none⟩ ∧ w1.heap.size ≤ b ∧ b < w2.heap.size ∧ RowB b o s.heads w2 := by
    rcases hO.heads with e | h
    · rw [e] at n3; simp at n3
    · exact h
  have hne : b2 ≠ b3 := hO.two _ _ _ _ rfl rfl (fun e => by rw [e] at n1; simp at n1) (fun e => by rw [e] at n3; simp at n3)
  clear hO
  have cA0 := blk_cell hGA2.out 0
  have cA1 := blk_cell hGA2.out 1
  simp at cA0 cA1
  go_upto_region 7 with fail
  have P3 := hidS (p3.later ((Below.refl w2.heap.size w2).alloc (Nat.le_refl _) (.cells #[.slice (some ⟨b2, o2, none⟩) s.slots.length cS2, .slice (some ⟨b3, o3, none⟩) s.heads.length cH2] 26)))
  have Q3 := hidS (q3.later ((Below.refl w2.heap.size w2).alloc (Nat.le_refl _) (.cells #[.slice (some ⟨b2, o2, none⟩) s.slots.length cS2, .slice (some ⟨b3, o3, none⟩) s.heads.length cH2] 26)))
  clear p3 q3
  have hGO3 := hidS (heap_newG w2 (.cells #[.slice (some ⟨b2, o2, none⟩) s.slots.length cS2, .slice (some ⟨b3, o3, none⟩) s.heads.length cH2] 26))
  have nO := blk_lt hGR2.out
  have hGA3 := hidS (blk_alloc hGA2.out (.cells #[.slice (some ⟨b2, o2, none⟩) s.slots.length cS2, .slice (some ⟨b3, o3, none⟩) s.heads.length cH2] 26))
  have hGR3 := hidS (blk_alloc hGR2.out (.cells #[.slice (some ⟨b2, o2, none⟩) s.slots.length cS2, .slice (some ⟨b3, o3, none⟩) s.heads.length cH2] 26))
  have hL3 := hidS (hL2.out.alloc hL2.out.size (.cells #[.slice (some ⟨b2, o2, none⟩) s.slots.length cS2, .slice (some ⟨b3, o3, none⟩) s.heads.length cH2] 26))
  clear cA0 cA1
  clear hL2 hGA2 hGR2
  generalize w2.alloc (.cells #[.slice (some ⟨b2, o2, none⟩) s.slots.length cS2, .slice (some ⟨b3, o3, none⟩) s.heads.length cH2] 26) = w3 at P3 Q3 hGA3 hGR3 hGO3 hL3 ⊢
  have cA0 := blk_cell hGA3.out 0
  have cA1 := blk_cell hGA3.out 1
  simp at cA0 cA1
  have cO0 := blk_cell hGO3.out 0
  have cO1 := blk_cell hGO3.out 1
  simp at cO0 cO1
  obtain ⟨bS', oS', eS, lS, c0, c1, c2, c3⟩ := (HR.out.slots.later hL3.out).slot hC
  injection eS with eS; injection eS with eS1 eS2
  subst eS1 eS2
  rw [hx] at c2
  clear c0 c1 c3
  obtain ⟨b2', o2', eS, _, c0, c1, d2, c3⟩ := P3.out.read.slot hC
  injection eS with eS; injection eS with eS1 eS2
  subst eS1 eS2
  rw [hx] at d2
  clear c0 c1 c3
  have f2 := (rowB_cells P3.out (4 * C + 2) (by rw [flat_len]; omega)).2
  rw [show o2 + (4 * C + 2) = o2 + C * 4 + 2 by omega] at f2
  clear HS HCP HI
  go_region
  have hwb : w.heap.size ≤ b2 ∧ w.heap.size + 1 < b2 ∧ w.heap.size ≤ b3 ∧ w.heap.size + 1 < b3 := by omega
  have P4 : Hid (RowB b2 o2 (flat (refS s (C : Int) (x.refs + 1)).slots) ((w3.setCell ⟨b2, o2 + C * 4 + 2, none⟩ (.int .i64 (x.refs + 1))).drew)) := by
    have h := P3.out.set (4 * C + 2) (x.refs + 1) (by rw [flat_len]; omega)
    rw [flat_refs _ _ _ hC, hx, show o2 + (4 * C + 2) = o2 + C * 4 + 2 by omega] at h
    have e : (refS s (C : Int) (x.refs + 1)).slots = s.slots.set C { x with refs := x.refs + 1 } := by unfold refS; rw [EX.out]; rfl
    show RowB _ _ _ _
    rw [e]
    exact h
  have Q4 : Hid (RowB b3 o3 s.heads ((w3.setCell ⟨b2, o2 + C * 4 + 2, none⟩ (.int .i64 (x.refs + 1))).drew)) := hidS (RowB.other (g := b2) (k := o2 + C * 4 + 2) (v := .int .i64 (x.refs + 1)) Q3.out (fun e => hne e.symm))
  have hGR4 : Hid (((w3.setCell ⟨b2, o2 + C * 4 + 2, none⟩ (.int .i64 (x.refs + 1))).drew).heap[w.heap.size + 1]? = some (.cells #[.slice none 0 0, .slice none 0 0, .int .i64 0, .int .i64 0] 30)) := hidS (blk_other (B := b2) hGR3.out (by omega) (o2 + C * 4 + 2) (.int .i64 (x.refs + 1)))
  have hGO4 : Hid (((w3.setCell ⟨b2, o2 + C * 4 + 2, none⟩ (.int .i64 (x.refs + 1))).drew).heap[w2.heap.size]? = some (.cells #[.slice (some ⟨b2, o2, none⟩) s.slots.length cS2, .slice (some ⟨b3, o3, none⟩) s.heads.length cH2] 26)) := hidS (blk_other (B := b2) hGO3.out (by omega) (o2 + C * 4 + 2) (.int .i64 (x.refs + 1)))
  have hL4 : Hid (Below w.heap.size w ((w3.setCell ⟨b2, o2 + C * 4 + 2, none⟩ (.int .i64 (x.refs + 1))).drew)) := hidS (below_at (k := o2 + C * 4 + 2) (b := b2) (v := .int .i64 (x.refs + 1)) hL3.out (by omega)).drew
  clear P3 Q3 hGA3 hGR3 hGO3 hL3 cA0 cA1 cO0 cO1 c2 d2 f2 lS
  generalize (w3.setCell ⟨b2, o2 + C * 4 + 2, none⟩ (.int .i64 (x.refs + 1))).drew = w4 at P4 Q4 hGR4 hGO4 hL4 ⊢
  have hlen : (refS s (C : Int) (x.refs + 1)).slots.length = s.slots.length := by simp [refS]
  have hhd : (refS s (C : Int) (x.refs + 1)).heads = s.heads := rfl
  have HLN := hidS hlen
  have HHD := hidS hhd
  clear hlen hhd
  have cO0 := blk_cell hGO4.out 0
  have cO1 := blk_cell hGO4.out 1
  simp at cO0 cO1
  have kR := blk_cell hGR4.out
  have fR := blk_free hGR4.out
  go_wp2_with fail
  refine bodyPost_ret (v := .agg #[.slice (some ⟨b2, o2, none⟩) s.slots.length cS2, .slice (some ⟨b3, o3, none⟩) s.heads.length cH2, .int .i64 (C : Int), .int .i64 0]) (by simp [results, Try.results17, go_sem, *]) rfl ?_
  refine ⟨some ⟨b2, o2, none⟩, cS2, some ⟨b3, o3, none⟩, cH2, by rw [HLN.out, HHD.out], ⟨?_, ?_, ?_⟩, ?_⟩
  · have P5 := P4.out
    refine .inr ⟨b2, o2, rfl, hwb.1, ?_, ?_⟩
    · refine RowB.lt (o := o2) (zs := flat (refS s (C : Int) (x.refs + 1)).slots) ?_; repeat (refine RowB.other ?_ (by omega))
      exact P5
    · repeat (refine RowB.other ?_ (by omega))
      exact P5
  · have Q5 := Q4.out
    rw [HHD.out]
    refine .inr ⟨b3, o3, rfl, hwb.2.2.1, ?_, ?_⟩
    · refine RowB.lt (o := o3) (zs := s.heads) ?_; repeat (refine RowB.other ?_ (by omega))
      exact Q5
    · repeat (refine RowB.other ?_ (by omega))
      exact Q5
  · intro b o c p e1 e2 _ _
    injection e1 with e1; injection e1 with e1
    injection e2 with e2; injection e2 with e2
    omega
  · repeat (refine below_at ?_ (by omega))
    exact hL4.out
end Go.Proofs.Ytcopfejonbbmnaa
