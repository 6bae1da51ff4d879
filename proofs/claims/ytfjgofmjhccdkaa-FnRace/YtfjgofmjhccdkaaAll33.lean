/- Proved here: impl.SlabGet answers the slab with one holder more at a slot, in memory of its own, or a code; all old memory stays (conditions: the slab's rows can be read; at most 2^20 numbers; numbers of int64). · Proved here: a law on regions that draw their order, where a block of one int is made, written once, and more may follow (no program of its own). -/
import Derived.Test.YtfjgofmjhccdkaaAll28
import Derived.Test.YtfjgofmjhccdkaaAll8
import Derived.Test.YtfjgofmjhccdkaaAll10
import Derived.Test.YtfjgofmjhccdkaaAll31
section
namespace Go.Proofs.Ytfjgofmjhccdkaa
open Go.ChangeShapes Go.WideShapes Go.ChangeAt Go.RowKit
set_option linter.unusedVariables false
set_option linter.unusedSimpArgs false
set_option maxRecDepth 100000

set_option maxHeartbeats 4000000 in
theorem implSlabGet_any (aS aH : Option Addr) (cS cH : Nat) (s : Slb) (c : Int) (w : World) (hR : SlabZ aS aH s w) (hF : SlabFit s) (h1 : s.slots.length ≤ 1048576) (h2 : s.heads.length ≤ 1048576) :
    Calls Try.prog 110 #[.agg #[.slice aS s.slots.length cS, .slice aH s.heads.length cH], .int .i64 c] w fun e w' => OutAns (getS s c) (getA s c) (getC s c) w e w' := by
  have HS := hidS (fun W (h : Below w.heap.size w W) => implSlabRight_any aS aH cS cH s W (hR.later h) hF h1 h2)
  have HI := hidS (fun W => isSlot_any aS aH s.slots.length cS s.heads.length cH c W h1)
  have ILL : Hid (∀ q : Int, q ≠ 0 → getC s c = q → ∀ e w', e = .returned (.agg #[.slice none 0 0, .slice none 0 0, .int .i64 0, .int .i64 q]) ∧ Below w.heap.size w w' → OutAns (getS s c) (getA s c) (getC s c) w e w') := by
    refine hidS (fun q hq hc e w' h => ?_)
    have e1 : getS s c = ⟨[], []⟩ := by unfold getS; rw [hc, if_neg hq]
    have e2 : getA s c = 0 := by unfold getA; rw [hc, if_neg hq]
    rw [e1, e2, hc]
    exact ill_out h
  cases hr : rightSl s
  · have EB : beginAns s c = 1 := by unfold beginAns atB; rw [hr]; rfl
    have EC : getC s c = 1 := by unfold getC; rw [EB, if_neg (by decide)]
    refine Calls.mono (R := fun e w' => e = .returned (.agg #[.slice none 0 0, .slice none 0 0, .int .i64 0, .int .i64 1]) ∧ Below w.heap.size w w') ?_ (ILL.out 1 (by decide) EC)
    rw [hr] at HS
    clear hr hR ILL EB EC
    have hGA0 : Hid (((w.alloc (.cells #[.slice aS s.slots.length cS, .slice aH s.heads.length cH] 26)).alloc (.cells #[.slice none 0 0, .slice none 0 0, .int .i64 0, .int .i64 0] 47)).heap[w.heap.size]? = some (.cells #[.slice aS s.slots.length cS, .slice aH s.heads.length cH] 26)) := by
      show _ = _
      have := blk_alloc (heap_newG w (.cells #[.slice aS s.slots.length cS, .slice aH s.heads.length cH] 26)) (.cells #[.slice none 0 0, .slice none 0 0, .int .i64 0, .int .i64 0] 47)
      simpa using this
    have hGR0 : Hid (((w.alloc (.cells #[.slice aS s.slots.length cS, .slice aH s.heads.length cH] 26)).alloc (.cells #[.slice none 0 0, .slice none 0 0, .int .i64 0, .int .i64 0] 47)).heap[w.heap.size + 1]? = some (.cells #[.slice none 0 0, .slice none 0 0, .int .i64 0, .int .i64 0] 47)) := by
      show _ = _
      have := heap_newG (w.alloc (.cells #[.slice aS s.slots.length cS, .slice aH s.heads.length cH] 26)) (.cells #[.slice none 0 0, .slice none 0 0, .int .i64 0, .int .i64 0] 47)
      simpa using this
    have hL0 := hidS (((Below.refl w.heap.size w).alloc (Nat.le_refl _) (.cells #[.slice aS s.slots.length cS, .slice aH s.heads.length cH] 26)).alloc (by simp) (.cells #[.slice none 0 0, .slice none 0 0, .int .i64 0, .int .i64 0] 47))
    go_enter Try.func110, Try.ntmps110
    go_wp2_with fail
    refine (HS.out _ hL0.out).mono ?_
    rintro _ w1 ⟨rfl, hb1⟩
    have hGA1 := hidS (blk_later hGA0.out hb1)
    have hGR1 := hidS (blk_later hGR0.out hb1)
    have hL1 := hidS (hL0.out.trans (hb1.mono hL0.out.size))
    clear hb1 hL0 hGA0 hGR0
    have cA0 := blk_cell hGA1.out 0
    have cA1 := blk_cell hGA1.out 1
    simp at cA0 cA1
    have kR := blk_cell hGR1.out
    have fR := blk_free hGR1.out
    go_wp2_with fail
    refine bodyPost_ret (v := .agg #[.slice none 0 0, .slice none 0 0, .int .i64 0, .int .i64 1]) (by simp [results, Try.results110, go_sem, *]) rfl ⟨rfl, ?_⟩
    repeat (refine below_at ?_ (by omega))
    exact hL1.out
  rw [hr] at HS
  cases hi : inB s.slots.length c
  · have EB : beginAns s c = 1 := by
      unfold beginAns atB
      rw [hr]
      unfold inB at hi
      simp at hi
      rw [if_neg (by simp; omega)]
    have EC : getC s c = 1 := by unfold getC; rw [EB, if_neg (by decide)]
    refine Calls.mono (R := fun e w' => e = .returned (.agg #[.slice none 0 0, .slice none 0 0, .int .i64 0, .int .i64 1]) ∧ Below w.heap.size w w') ?_ (ILL.out 1 (by decide) EC)
    rw [hi] at HI
    clear hr hR ILL EB EC hi
    have hGA0 : Hid (((w.alloc (.cells #[.slice aS s.slots.length cS, .slice aH s.heads.length cH] 26)).alloc (.cells #[.slice none 0 0, .slice none 0 0, .int .i64 0, .int .i64 0] 47)).heap[w.heap.size]? = some (.cells #[.slice aS s.slots.length cS, .slice aH s.heads.length cH] 26)) := by
      show _ = _
      have := blk_alloc (heap_newG w (.cells #[.slice aS s.slots.length cS, .slice aH s.heads.length cH] 26)) (.cells #[.slice none 0 0, .slice none 0 0, .int .i64 0, .int .i64 0] 47)
      simpa using this
    have hGR0 : Hid (((w.alloc (.cells #[.slice aS s.slots.length cS, .slice aH s.heads.length cH] 26)).alloc (.cells #[.slice none 0 0, .slice none 0 0, .int .i64 0, .int .i64 0] 47)).heap[w.heap.size + 1]? = some (.cells #[.slice none 0 0, .slice none 0 0, .int .i64 0, .int .i64 0] 47)) := by
      show _ = _
      have := heap_newG (w.alloc (.cells #[.slice aS s.slots.length cS, .slice aH s.heads.length cH] 26)) (.cells #[.slice none 0 0, .slice none 0 0, .int .i64 0, .int .i64 0] 47)
      simpa using this
    have hL0 := hidS (((Below.refl w.heap.size w).alloc (Nat.le_refl _) (.cells #[.slice aS s.slots.length cS, .slice aH s.heads.length cH] 26)).alloc (by simp) (.cells #[.slice none 0 0, .slice none 0 0, .int .i64 0, .int .i64 0] 47))
    go_enter Try.func110, Try.ntmps110
    go_wp2_with fail
    refine (HS.out _ hL0.out).mono ?_
    rintro _ w1 ⟨rfl, hb1⟩
    have hGA1 := hidS (blk_later hGA0.out hb1)
    have hGR1 := hidS (blk_later hGR0.out hb1)
    have hL1 := hidS (hL0.out.trans (hb1.mono hL0.out.size))
    clear hb1 hL0 hGA0 hGR0
    have cA0 := blk_cell hGA1.out 0
    have cA1 := blk_cell hGA1.out 1
    simp at cA0 cA1
    go_wp2_with fail
    refine (HI.out _).mono ?_
    rintro _ w2 ⟨rfl, hb2⟩
    clear cA0 cA1
    have hGA2 := hidS (blk_later hGA1.out hb2)
    have hGR2 := hidS (blk_later hGR1.out hb2)
    have hL2 := hidS (hL1.out.trans (hb2.mono hL1.out.size))
    clear hb2 hL1 hGA1 hGR1
    have kR := blk_cell hGR2.out
    have fR := blk_free hGR2.out
    go_wp2_with fail
    refine bodyPost_ret (v := .agg #[.slice none 0 0, .slice none 0 0, .int .i64 0, .int .i64 1]) (by simp [results, Try.results110, go_sem, *]) rfl ⟨rfl, ?_⟩
    repeat (refine below_at ?_ (by omega))
    exact hL2.out
  rw [hi] at HI
  obtain ⟨C, rfl, hC⟩ : ∃ C : Nat, c = (C : Int) ∧ C < s.slots.length := by
    unfold inB at hi; simp at hi; exact ⟨c.toNat, by omega, by omega⟩
  have hCC : (0 : Int) ≤ (C : Int) ∧ (C : Int) < (s.slots.length : Int) := by omega
  have EAT : atB s (C : Int) = true := by unfold atB; rw [hr]; simp; omega
  obtain ⟨_, n1, n2, n3, n4⟩ := right_leads hr
  obtain ⟨bS, oS, rfl, _⟩ := hR.slots.slot hC
  obtain ⟨bH, oH, rfl, _⟩ := hR.heads 0 (by omega)
  obtain ⟨x, hx⟩ : ∃ x, s.slots.getD C zeroSlt = x := ⟨_, rfl⟩
  have EX : Hid (slotN s (C : Int) = x) := by show _ = _; rw [slot_nat]; exact hx
  have hx0 := refs_nat hr hC
  rw [hx] at hx0
  obtain ⟨hx0, hx1⟩ := hx0
  have HSL : Hid (∀ W, Below w.heap.size w W → bS < W.heap.size ∧ W.cell? ⟨bS, oS + C * 4, none⟩ = some (.int .i64 x.key) ∧ W.cell? ⟨bS, oS + C * 4 + 1, none⟩ = some (.int .i64 x.gen) ∧ W.cell? ⟨bS, oS + C * 4 + 2, none⟩ = some (.int .i64 x.refs) ∧ W.cell? ⟨bS, oS + C * 4 + 3, none⟩ = some (.int .i64 x.next)) := hidS (fun W h => by
    obtain ⟨b', o', eS, lS, c0, c1, c2, c3⟩ := (hR.slots.later h).slot hC
    injection eS with eS; injection eS with eS1 eS2
    subst eS1 eS2
    rw [hx] at c0 c1 c2 c3
    exact ⟨lS, c0, c1, c2, c3⟩)
  have HFR := hidS (fun W => isFree_any x W)
  by_cases hz : x.refs = 0
  · have EB : beginAns s (C : Int) = 6 := by unfold beginAns; rw [if_pos EAT, EX.out, if_pos hz]
    have EC : getC s (C : Int) = 6 := by unfold getC; rw [EB, if_neg (by decide)]
    refine Calls.mono (R := fun e w' => e = .returned (.agg #[.slice none 0 0, .slice none 0 0, .int .i64 0, .int .i64 6]) ∧ Below w.heap.size w w') ?_ (ILL.out 6 (by decide) EC)
    rw [decide_eq_true hz] at HFR
    clear hr hR ILL EB EC hi hz EAT hx hx0 hx1
    have hGA0 : Hid (((w.alloc (.cells #[.slice (some ⟨bS, oS, none⟩) s.slots.length cS, .slice (some ⟨bH, oH, none⟩) s.heads.length cH] 26)).alloc (.cells #[.slice none 0 0, .slice none 0 0, .int .i64 0, .int .i64 0] 47)).heap[w.heap.size]? = some (.cells #[.slice (some ⟨bS, oS, none⟩) s.slots.length cS, .slice (some ⟨bH, oH, none⟩) s.heads.length cH] 26)) := by
      show _ = _
      have := blk_alloc (heap_newG w (.cells #[.slice (some ⟨bS, oS, none⟩) s.slots.length cS, .slice (some ⟨bH, oH, none⟩) s.heads.length cH] 26)) (.cells #[.slice none 0 0, .slice none 0 0, .int .i64 0, .int .i64 0] 47)
      simpa using this
    have hGR0 : Hid (((w.alloc (.cells #[.slice (some ⟨bS, oS, none⟩) s.slots.length cS, .slice (some ⟨bH, oH, none⟩) s.heads.length cH] 26)).alloc (.cells #[.slice none 0 0, .slice none 0 0, .int .i64 0, .int .i64 0] 47)).heap[w.heap.size + 1]? = some (.cells #[.slice none 0 0, .slice none 0 0, .int .i64 0, .int .i64 0] 47)) := by
      show _ = _
      have := heap_newG (w.alloc (.cells #[.slice (some ⟨bS, oS, none⟩) s.slots.length cS, .slice (some ⟨bH, oH, none⟩) s.heads.length cH] 26)) (.cells #[.slice none 0 0, .slice none 0 0, .int .i64 0, .int .i64 0] 47)
      simpa using this
    have hL0 := hidS (((Below.refl w.heap.size w).alloc (Nat.le_refl _) (.cells #[.slice (some ⟨bS, oS, none⟩) s.slots.length cS, .slice (some ⟨bH, oH, none⟩) s.heads.length cH] 26)).alloc (by simp) (.cells #[.slice none 0 0, .slice none 0 0, .int .i64 0, .int .i64 0] 47))
    go_enter Try.func110, Try.ntmps110
    go_wp2_with fail
    refine (HS.out _ hL0.out).mono ?_
    rintro _ w1 ⟨rfl, hb1⟩
    have hGA1 := hidS (blk_later hGA0.out hb1)
    have hGR1 := hidS (blk_later hGR0.out hb1)
    have hL1 := hidS (hL0.out.trans (hb1.mono hL0.out.size))
    clear hb1 hL0 hGA0 hGR0
    have cA0 := blk_cell hGA1.out 0
    have cA1 := blk_cell hGA1.out 1
    simp at cA0 cA1
    go_wp2_with fail
    refine (HI.out _).mono ?_
    rintro _ w2 ⟨rfl, hb2⟩
    clear cA0 cA1
    have hGA2 := hidS (blk_later hGA1.out hb2)
    have hGR2 := hidS (blk_later hGR1.out hb2)
    have hL2 := hidS (hL1.out.trans (hb2.mono hL1.out.size))
    clear hb2 hL1 hGA1 hGR1
    have cA0 := blk_cell hGA2.out 0
    have cA1 := blk_cell hGA2.out 1
    simp at cA0 cA1
    obtain ⟨lS, c0, c1, c2, c3⟩ := HSL.out _ hL2.out
    go_wp2_with fail
    refine (HFR.out _).mono ?_
    rintro _ w3 ⟨rfl, hb3⟩
    clear cA0 cA1 c0 c1 c2 c3
    have hGA3 := hidS (blk_later hGA2.out hb3)
    have hGR3 := hidS (blk_later hGR2.out hb3)
    have hL3 := hidS (hL2.out.trans (hb3.mono hL2.out.size))
    clear hb3 hL2 hGA2 hGR2
    have kR := blk_cell hGR3.out
    have fR := blk_free hGR3.out
    go_wp2_with fail
    refine bodyPost_ret (v := .agg #[.slice none 0 0, .slice none 0 0, .int .i64 0, .int .i64 6]) (by simp [results, Try.results110, go_sem, *]) rfl ⟨rfl, ?_⟩
    repeat (refine below_at ?_ (by omega))
    exact hL3.out
  rw [decide_eq_false hz] at HFR
  have EB : Hid (beginAns s (C : Int) = 0) := by show _ = _; unfold beginAns; rw [if_pos EAT, EX.out, if_neg hz]
  by_cases hf : x.refs = 1000000
  · have EC : getC s (C : Int) = 9 := by unfold getC; rw [if_pos EB.out, EX.out, if_pos (by omega)]
    refine Calls.mono (R := fun e w' => e = .returned (.agg #[.slice none 0 0, .slice none 0 0, .int .i64 0, .int .i64 9]) ∧ Below w.heap.size w w') ?_ (ILL.out 9 (by decide) EC)
    have hfb : (x.refs == 1000000) = true := beq_iff_eq.2 hf
    clear hr hR ILL EB EC hi hz EAT hx hx0 hx1 hf
    have hGA0 : Hid (((w.alloc (.cells #[.slice (some ⟨bS, oS, none⟩) s.slots.length cS, .slice (some ⟨bH, oH, none⟩) s.heads.length cH] 26)).alloc (.cells #[.slice none 0 0, .slice none 0 0, .int .i64 0, .int .i64 0] 47)).heap[w.heap.size]? = some (.cells #[.slice (some ⟨bS, oS, none⟩) s.slots.length cS, .slice (some ⟨bH, oH, none⟩) s.heads.length cH] 26)) := by
      show _ = _
      have := blk_alloc (heap_newG w (.cells #[.slice (some ⟨bS, oS, none⟩) s.slots.length cS, .slice (some ⟨bH, oH, none⟩) s.heads.length cH] 26)) (.cells #[.slice none 0 0, .slice none 0 0, .int .i64 0, .int .i64 0] 47)
      simpa using this
    have hGR0 : Hid (((w.alloc (.cells #[.slice (some ⟨bS, oS, none⟩) s.slots.length cS, .slice (some ⟨bH, oH, none⟩) s.heads.length cH] 26)).alloc (.cells #[.slice none 0 0, .slice none 0 0, .int .i64 0, .int .i64 0] 47)).heap[w.heap.size + 1]? = some (.cells #[.slice none 0 0, .slice none 0 0, .int .i64 0, .int .i64 0] 47)) := by
      show _ = _
      have := heap_newG (w.alloc (.cells #[.slice (some ⟨bS, oS, none⟩) s.slots.length cS, .slice (some ⟨bH, oH, none⟩) s.heads.length cH] 26)) (.cells #[.slice none 0 0, .slice none 0 0, .int .i64 0, .int .i64 0] 47)
      simpa using this
    have hL0 := hidS (((Below.refl w.heap.size w).alloc (Nat.le_refl _) (.cells #[.slice (some ⟨bS, oS, none⟩) s.slots.length cS, .slice (some ⟨bH, oH, none⟩) s.heads.length cH] 26)).alloc (by simp) (.cells #[.slice none 0 0, .slice none 0 0, .int .i64 0, .int .i64 0] 47))
    go_enter Try.func110, Try.ntmps110
    go_wp2_with fail
    refine (HS.out _ hL0.out).mono ?_
    rintro _ w1 ⟨rfl, hb1⟩
    have hGA1 := hidS (blk_later hGA0.out hb1)
    have hGR1 := hidS (blk_later hGR0.out hb1)
    have hL1 := hidS (hL0.out.trans (hb1.mono hL0.out.size))
    clear hb1 hL0 hGA0 hGR0
    have cA0 := blk_cell hGA1.out 0
    have cA1 := blk_cell hGA1.out 1
    simp at cA0 cA1
    go_wp2_with fail
    refine (HI.out _).mono ?_
    rintro _ w2 ⟨rfl, hb2⟩
    clear cA0 cA1
    have hGA2 := hidS (blk_later hGA1.out hb2)
    have hGR2 := hidS (blk_later hGR1.out hb2)
    have hL2 := hidS (hL1.out.trans (hb2.mono hL1.out.size))
    clear hb2 hL1 hGA1 hGR1
    have cA0 := blk_cell hGA2.out 0
    have cA1 := blk_cell hGA2.out 1
    simp at cA0 cA1
    obtain ⟨lS, c0, c1, c2, c3⟩ := HSL.out _ hL2.out
    go_wp2_with fail
    refine (HFR.out _).mono ?_
    rintro _ w3 ⟨rfl, hb3⟩
    clear cA0 cA1 c0 c1 c2 c3
    have hGA3 := hidS (blk_later hGA2.out hb3)
    have hGR3 := hidS (blk_later hGR2.out hb3)
    have hL3 := hidS (hL2.out.trans (hb3.mono hL2.out.size))
    clear hb3 hL2 hGA2 hGR2
    have cA0 := blk_cell hGA3.out 0
    have cA1 := blk_cell hGA3.out 1
    simp at cA0 cA1
    obtain ⟨lS, c0, c1, c2, c3⟩ := HSL.out _ hL3.out
    have cA0 := blk_cell hGA3.out 0
    have cA1 := blk_cell hGA3.out 1
    simp at cA0 cA1
    have kR := blk_cell hGR3.out
    have fR := blk_free hGR3.out
    go_wp2_with fail
    refine bodyPost_ret (v := .agg #[.slice none 0 0, .slice none 0 0, .int .i64 0, .int .i64 9]) (by simp [results, Try.results110, go_sem, *]) rfl ⟨rfl, ?_⟩
    repeat (refine below_at ?_ (by omega))
    exact hL3.out
  have hfb : (x.refs == 1000000) = false := beq_eq_false_iff_ne.2 hf
  have EC : getC s (C : Int) = 0 := by unfold getC; rw [if_pos EB.out, EX.out, if_neg (by omega)]
  have ES : getS s (C : Int) = refS s (C : Int) ((slotN s (C : Int)).refs + 1) := by unfold getS; rw [EC, if_pos rfl]
  have EA : getA s (C : Int) = (C : Int) := by unfold getA; rw [EC, if_pos rfl]
  have HMO := hidS (fun W (h : Below w.heap.size w W) => moreRefs_any bS oS bH oH cS cH s C 1 W (hR.later h) hr hC (by omega) (by omega))
  rw [ES, EA, EC]
  have hlen : Hid ((refS s (C : Int) ((slotN s (C : Int)).refs + 1)).slots.length = s.slots.length ∧ (refS s (C : Int) ((slotN s (C : Int)).refs + 1)).heads.length = s.heads.length) := by show _ ∧ _; simp [refS]
  generalize refS s (C : Int) ((slotN s (C : Int)).refs + 1) = t at HMO hlen ⊢
  clear hr hR ILL EB EC ES EA hi hz EAT hx hx0 hx1 hf
  have hGA0 : Hid (((w.alloc (.cells #[.slice (some ⟨bS, oS, none⟩) s.slots.length cS, .slice (some ⟨bH, oH, none⟩) s.heads.length cH] 26)).alloc (.cells #[.slice none 0 0, .slice none 0 0, .int .i64 0, .int .i64 0] 47)).heap[w.heap.size]? = some (.cells #[.slice (some ⟨bS, oS, none⟩) s.slots.length cS, .slice (some ⟨bH, oH, none⟩) s.heads.length cH] 26)) := by
    show _ = _
    have := blk_alloc (heap_newG w (.cells #[.slice (some ⟨bS, oS, none⟩) s.slots.length cS, .slice (some ⟨bH, oH, none⟩) s.heads.length cH] 26)) (.cells #[.slice none 0 0, .slice none 0 0, .int .i64 0, .int .i64 0] 47)
    simpa using this
  have hGR0 : Hid (((w.alloc (.cells #[.slice (some ⟨bS, oS, none⟩) s.slots.length cS, .slice (some ⟨bH, oH, none⟩) s.heads.length cH] 26)).alloc (.cells #[.slice none 0 0, .slice none 0 0, .int .i64 0, .int .i64 0] 47)).heap[w.heap.size + 1]? = some (.cells #[.slice none 0 0, .slice none 0 0, .int .i64 0, .int .i64 0] 47)) := by
    show _ = _
    have := heap_newG (w.alloc (.cells #[.slice (some ⟨bS, oS, none⟩) s.slots.length cS, .slice (some ⟨bH, oH, none⟩) s.heads.length cH] 26)) (.cells #[.slice none 0 0, .slice none 0 0, .int .i64 0, .int .i64 0] 47)
    simpa using this
  have hL0 := hidS (((Below.refl w.heap.size w).alloc (Nat.le_refl _) (.cells #[.slice (some ⟨bS, oS, none⟩) s.slots.length cS, .slice (some ⟨bH, oH, none⟩) s.heads.length cH] 26)).alloc (by simp) (.cells #[.slice none 0 0, .slice none 0 0, .int .i64 0, .int .i64 0] 47))
  go_enter Try.func110, Try.ntmps110
  go_wp2_with fail
  refine (HS.out _ hL0.out).mono ?_
  rintro _ w1 ⟨rfl, hb1⟩
  have hGA1 := hidS (blk_later hGA0.out hb1)
  have hGR1 := hidS (blk_later hGR0.out hb1)
  have hL1 := hidS (hL0.out.trans (hb1.mono hL0.out.size))
  clear hb1 hL0 hGA0 hGR0
  have cA0 := blk_cell hGA1.out 0
  have cA1 := blk_cell hGA1.out 1
  simp at cA0 cA1
  go_wp2_with fail
  refine (HI.out _).mono ?_
  rintro _ w2 ⟨rfl, hb2⟩
  clear cA0 cA1
  have hGA2 := hidS (blk_later hGA1.out hb2)
  have hGR2 := hidS (blk_later hGR1.out hb2)
  have hL2 := hidS (hL1.out.trans (hb2.mono hL1.out.size))
  clear hb2 hL1 hGA1 hGR1
  have cA0 := blk_cell hGA2.out 0
  have cA1 := blk_cell hGA2.out 1
  simp at cA0 cA1
  obtain ⟨lS, c0, c1, c2, c3⟩ := HSL.out _ hL2.out
  go_wp2_with fail
  refine (HFR.out _).mono ?_
  rintro _ w3 ⟨rfl, hb3⟩
  clear cA0 cA1 c0 c1 c2 c3
  have hGA3 := hidS (blk_later hGA2.out hb3)
  have hGR3 := hidS (blk_later hGR2.out hb3)
  have hL3 := hidS (hL2.out.trans (hb3.mono hL2.out.size))
  clear hb3 hL2 hGA2 hGR2
  have cA0 := blk_cell hGA3.out 0
  have cA1 := blk_cell hGA3.out 1
  simp at cA0 cA1
  obtain ⟨lS, c0, c1, c2, c3⟩ := HSL.out _ hL3.out
  go_wp2_with fail
  refine (HMO.out _ hL3.out).mono ?_
  rintro _ w4 ⟨aS2, cS2, aH2, cH2, rfl, hO, hb4⟩
  have lR := blk_lt hGR3.out
  have hGR4 := hidS (blk_later hGR3.out hb4)
  have hL4 := hidS (hL3.out.trans (hb4.mono hL3.out.size))
  have HO := hidS hO
  clear hb4 hO cA0 cA1 c0 c1 c2 c3 hGA3 hL3 hGR3
  have kR := blk_cell hGR4.out
  have fR := blk_free hGR4.out
  go_wp2_with fail
  refine bodyPost_ret (v := .agg #[.slice aS2 t.slots.length cS2, .slice aH2 t.heads.length cH2, .int .i64 (C : Int), .int .i64 0]) (by simp [results, Try.results110, go_sem, *]) rfl ?_
  refine ⟨aS2, cS2, aH2, cH2, rfl, ?_, ?_⟩
  · refine SlabO.low (lo := w.heap.size + 2) ?_ (by omega)
    repeat (refine SlabO.other ?_ (by omega))
    exact HO.out.low (by omega)
  · repeat (refine below_at ?_ (by omega))
    exact hL4.out
end Go.Proofs.Ytfjgofmjhccdkaa
end

section
namespace Go.Proofs.Ytfjgofmjhccdkaa
open Go.ChangeShapes Go.WideShapes Go.ChangeAt Go.RowKit
set_option linter.unusedVariables false
set_option linter.unusedSimpArgs false

section
variable {P : Program} {ops : Array Oper} {Q : Exit → Act → World → Prop} {a0 : Act}
/-- what is said of each value, whatever memory is -/
def kpure (ks : List (Value → Prop)) (i : Nat) (v : Value) : Prop := (ks.getD i (fun _ => True)) v
def StepO (P : Program) (ops : Array Oper) (w0 : World) (ks : List (Value → Prop)) (jx js : Nat) (z : Int) (t : TypeId) (a0 : Act) (i : Nat) (o : Oper) : Prop :=
  o.guard = none ∧ (i ≠ js → ∀ (v : Nat → Value) (w : World) (ρ : Operand → Value), Below w0.heap.size w0 w → (∀ c, ρ (.const c) = c) → (∀ f, ρ (.func f) = .func (.func f) #[] #[]) →
    (∀ (j : Nat) (d : Tmp), j < i → (ops[j]?).bind (·.dst) = some d → ρ (.tmp d) = v j) → (∀ t : Tmp, (∀ j, j < i → (ops[j]?).bind (·.dst) ≠ some t) → ρ (.tmp t) = a0.eval (.tmp t)) →
    (∀ e ∈ o.after, Region.binds .any e = true → kpure ks e.on (v e.on)) →
    RanS P (fun u w' => Below w0.heap.size w0 w' ∧ Below w.heap.size w w' ∧ kpure ks i u ∧ (i = jx → ∃ B, u = .pointer (some ⟨B, 0, none⟩) ∧ w0.heap.size ≤ B ∧ w'.heap[B]? = some (.cells #[.int .i64 z] t))) ((execOp ρ o).run P w))
theorem stepsFrom_monoO {F G : Nat → Oper → Prop} (h : ∀ i o, F i o → G i o) : ∀ (l : List Oper) (k : Nat), StepsFrom F k l → StepsFrom G k l
  | [], _, _ => trivial
  | o :: l, k, hk => ⟨h _ _ hk.1, stepsFrom_monoO h l (k + 1) hk.2⟩
theorem stepsFrom_at {F G : Nat → Oper → Prop} : ∀ (l : List Oper) (k : Nat), (∀ i o, l[i]? = some o → F (k + i) o → G (k + i) o) → StepsFrom F k l → StepsFrom G k l
  | [], _, _, _ => trivial
  | o :: l, k, h, hk => ⟨by have := h 0 o rfl; simpa using this hk.1, stepsFrom_at l (k + 1) (fun i o' hi hf => by
      have := h (i + 1) o' (by simpa using hi)
      rw [show k + (i + 1) = k + 1 + i by omega] at this
      exact this hf) hk.2⟩
theorem grow_once {id : Nat} {w0 : World} (n : Nat) (ks : List (Value → Prop)) (jx js jy : Nat) (dx dy : Tmp) (ty t : TypeId) (z x : Int) (oj : Oper) (hn : ops.size = n) (hm : P.follows .mixedOrders = true) (hT : tidyB ops a0.tmps.size = true)
    (hjs : ops[js]? = some oj) (ho : oj.op = .store ty (.tmp dx) (.tmp dy)) (hdl : oj.dst = none) (hjx : jx < js) (hjy : jy < js) (hx : (ops[jx]?).bind (·.dst) = some dx) (hy : (ops[jy]?).bind (·.dst) = some dy)
    (hex : ∃ e ∈ oj.after, Region.binds .any e = true ∧ e.on = jx) (hey : ∃ e ∈ oj.after, Region.binds .any e = true ∧ e.on = jy) (hky : ∀ v, kpure ks jy v → v = .int .i64 x) (hks : ∀ v, kpure ks js v) (hi : (P.info? ty).map (·.size) = some 1)
    (hstep : StepsFrom (StepO P ops w0 ks jx js z t a0) 0 ops.toList)
    (hend : ∀ (v : Nat → Value) (w : World) (B : Nat), Below w0.heap.size w0 w → v jx = .pointer (some ⟨B, 0, none⟩) → w0.heap.size ≤ B → w.heap[B]? = some (.cells #[.int .i64 x] t) → (∀ i, i < n → kpure ks i (v i)) → Q .normal (upto ops v a0 n) w) :
    (Code.region id ops true).wp P Q a0 w0 := by
  subst hn
  have hlt : js < ops.size := (Array.getElem?_eq_some_iff.1 hjs).1
  refine growS (fun L v W => Below w0.heap.size w0 W ∧ (∀ i, L i → kpure ks i (v i)) ∧ (L js → L jx) ∧ (L jx → ∃ B, v jx = .pointer (some ⟨B, 0, none⟩) ∧ w0.heap.size ≤ B ∧ (¬ L js → W.heap[B]? = some (.cells #[.int .i64 z] t)) ∧ (L js → W.heap[B]? = some (.cells #[.int .i64 x] t)))) hm hT (fun L v hno => ⟨(Below.refl _ _).drew, fun i h => (hno i h).elim, fun h => (hno _ h).elim, fun h => (hno _ h).elim⟩) (stepsFrom_at _ 0 (fun i o hio h => ?_) hstep) (fun L v w hc hall => ?_)
  · rw [Nat.zero_add] at h ⊢
    have hio' : ops[i]? = some o := by simpa using hio
    obtain ⟨hg, h⟩ := h
    refine ⟨hg, fun L v w ρ hc hn hd kc kf ksp ki => ?_⟩
    obtain ⟨c1, c2, c3, c4⟩ := hc
    by_cases e : i = js
    · subst e
      rw [hjs] at hio'
      injection hio' with hio'
      subst hio'
      obtain ⟨e1, he1, hb1, ho1⟩ := hex
      obtain ⟨e2, he2, hb2, ho2⟩ := hey
      have Lx : L jx := by rw [← ho1]; exact hd e1 he1 hb1
      have Ly : L jy := by rw [← ho2]; exact hd e2 he2 hb2
      obtain ⟨B, eB, hB, hz, _⟩ := c4 Lx
      have hzz := hz hn
      have tx : ρ (.tmp dx) = .pointer (some ⟨B, 0, none⟩) := (ksp jx dx hjx hx).trans eB
      have ty' : ρ (.tmp dy) = .int .i64 x := (ksp jy dy hjy hy).trans (hky _ (c2 _ Ly))
      have hrun : (storeVar ty ⟨B, 0, none⟩ (.int .i64 x)).run P w = .ok () (w.setCell ⟨B, 0, none⟩ (.int .i64 x)) := by
        have := run_storeCells_cells (P := P) B 0 [.int .i64 x] 0 w (fun j hj => by
          have : j = 0 := by simpa using hj
          subst this; simp [World.cell?, hzz]) (fun j hj => by
          have : j = 0 := by simpa using hj
          subst this; simp [World.frozen?, hzz]) (fun v hv => by simp at hv; subst hv; rfl)
        cases hq : P.info? ty with
        | none => simp [hq] at hi
        | some i =>
          have hs : 1 = i.size := by simp [hq] at hi; omega
          simp only [Nat.add_zero] at this
          simp [storeVar, sizeOf, typeInfo, hq, Value.cells, ← hs, this, World.setCells]
      unfold execOp
      simp only [ho, tx, ty', Instr.storeAt, Instr.sureAddr, Sem.run_bind, Sem.run_pure, Result.andThen_ok, hrun]
      simp only [RanS]
      refine ⟨c1.setCell (p := ⟨B, 0, none⟩) hB _, fun j hj => ?_, fun _ => .inl Lx, fun _ => ⟨B, ?_, hB, fun hno => by simp at hno, fun _ => ?_⟩⟩
      · by_cases ej : j = i
        · subst ej; exact hks _
        · simp only [if_neg ej]; exact c2 j (hj.resolve_right ej)
      · have : ¬ jx = i := by omega
        simp only [if_neg this]; exact eB
      · have := blk_set hzz 0 (.int .i64 x)
        simpa using this
    · refine RanS.monoL ?_ (h e v w ρ c1 kc kf ksp ki (fun e' he hb => c2 _ (hd e' he hb)))
      intro u w' ⟨q1, q2, q3, q4⟩
      refine ⟨q1, fun j hj => ?_, fun hj => ?_, fun hj => ?_⟩
      · by_cases ej : j = i
        · subst ej; simpa using q3
        · simp only [if_neg ej]; exact c2 j (hj.resolve_right ej)
      · have : L js := hj.resolve_right (fun e' => e e'.symm)
        exact .inl (c3 this)
      · by_cases ex : jx = i
        · obtain ⟨B, hu, hB, hcl⟩ := q4 ex.symm
          refine ⟨B, by simp only [if_pos ex]; exact hu, hB, fun _ => hcl, fun hj2 => ?_⟩
          have : L js := hj2.resolve_right (fun e' => e e'.symm)
          have := c3 this
          rw [ex] at this
          exact (hn this).elim
        · obtain ⟨B, hu, hB, h1, h2⟩ := c4 (hj.resolve_right ex)
          refine ⟨B, by simp only [if_neg ex]; exact hu, hB, fun hno => ?_, fun hj2 => ?_⟩
          · have := h1 (fun h' => hno (.inl h'))
            exact blk_later this q2
          · exact blk_later (h2 (hj2.resolve_right (fun e' => e e'.symm))) q2
  · obtain ⟨c1, c2, c3, c4⟩ := hc
    obtain ⟨B, eB, hB, _, h2⟩ := c4 (hall jx (by omega))
    exact hend v w B c1 eB hB (h2 (hall js hlt)) (fun i hi => c2 i (hall i hi))
end
end Go.Proofs.Ytfjgofmjhccdkaa
end
