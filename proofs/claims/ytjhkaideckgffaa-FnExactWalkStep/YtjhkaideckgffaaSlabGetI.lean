/- Proved here: impl.SlabGet answers the slab with one holder more at a slot, in memory of its own, or a code; all old memory stays (conditions: the slab's rows can be read; at most 2^20 numbers; numbers of int64). -/
import Derived.Test.YtjhkaideckgffaaSlabMoreI
import Derived.Test.YtjhkaideckgffaaSlabRightI
import Derived.Test.YtjhkaideckgffaaAll26
namespace Go.Proofs.Ytjhkaideckgffaa
open Go.ChangeShapes Go.WideShapes Go.ChangeAt Go.RowKit
set_option linter.unusedVariables false
set_option linter.unusedSimpArgs false
set_option maxRecDepth 100000

set_option maxHeartbeats 4000000 in
theorem implSlabGet_any (aS aH : Option Addr) (cS cH : Nat) (s : Slb) (c : Int) (w : World) (hR : SlabZ aS aH s w) (hF : SlabFit s) (h1 : s.slots.length ≤ 1048576) (h2 : s.heads.length ≤ 1048576) :
    Calls Try.prog 67 #[.agg #[.slice aS s.slots.length cS, .slice aH s.heads.length cH], .int .i64 c] w fun e w' => OutAns (getS s c) (getA s c) (getC s c) w e w' := by
  have HS := hidS (fun W (h : Below w.heap.size w W) => implSlabRight_any aS aH cS cH s W (hR.later h) hF h1 h2)
  have HI := hidS (fun W => isSlot_any aS aH s.slots.length cS s.heads.length cH c W h1)
  have ILL : Hid (∀ q : Int, q ≠ 0 → getC s c = q → ∀ e w', e = .returned (.agg #[.slice none 0 0, .slice none 0 0, .int .i64 0, .int .i64 q]) ∧ Below w.heap.size w w' → OutAns (getS s c) (getA s c) (getC s c) w e w') := by
    refine hidS (fun q hq hc e w' h => ?_)
    have e1 : getS s c = ⟨[], []⟩ := by unfold getS; rw [hc, if_neg hq]
    have e2 : getA s c = 0 := by unfold getA; rw [hc, if_neg hq]
    rw [e1, e2, hc]
    exact ill_out h
  cases hr : rightSl s
  · have EB : beginAns s c = 1 := by unfold beginAns atB; rw [hr]; rfl
    have EC : getC s c = 1 := by unfold getC; rw [EB, if_neg (by decide)]
    refine Calls.mono (R := fun e w' => e = .returned (.agg #[.slice none 0 0, .slice none 0 0, .int .i64 0, .int .i64 1]) ∧ Below w.heap.size w w') ?_ (ILL.out 1 (by decide) EC)
    rw [hr] at HS
    clear hr hR ILL EB EC
    have hGA0 : Hid (((w.alloc (.cells #[.slice aS s.slots.length cS, .slice aH s.heads.length cH] 32)).alloc (.cells #[.slice none 0 0, .slice none 0 0, .int .i64 0, .int .i64 0] 80)).heap[w.heap.size]? = some (.cells #[.slice aS s.slots.length cS, .slice aH s.heads.length cH] 32)) := by
      show _ = _
      have := blk_alloc (heap_newG w (.cells #[.slice aS s.slots.length cS, .slice aH s.heads.length cH] 32)) (.cells #[.slice none 0 0, .slice none 0 0, .int .i64 0, .int .i64 0] 80)
      simpa using this
    have hGR0 : Hid (((w.alloc (.cells #[.slice aS s.slots.length cS, .slice aH s.heads.length cH] 32)).alloc (.cells #[.slice none 0 0, .slice none 0 0, .int .i64 0, .int .i64 0] 80)).heap[w.heap.size + 1]? = some (.cells #[.slice none 0 0, .slice none 0 0, .int .i64 0, .int .i64 0] 80)) := by
      show _ = _
      have := heap_newG (w.alloc (.cells #[.slice aS s.slots.length cS, .slice aH s.heads.length cH] 32)) (.cells #[.slice none 0 0, .slice none 0 0, .int .i64 0, .int .i64 0] 80)
      simpa using this
    have hL0 := hidS (((Below.refl w.heap.size w).alloc (Nat.le_refl _) (.cells #[.slice aS s.slots.length cS, .slice aH s.heads.length cH] 32)).alloc (by simp) (.cells #[.slice none 0 0, .slice none 0 0, .int .i64 0, .int .i64 0] 80))
    go_enter Try.func67, Try.ntmps67
    go_wp2_with fail
    refine (HS.out _ hL0.out).mono ?_
    rintro _ w1 ⟨rfl, hb1⟩
    have hGA1 := hidS (blk_later hGA0.out hb1)
    have hGR1 := hidS (blk_later hGR0.out hb1)
    have hL1 := hidS (hL0.out.trans (hb1.mono hL0.out.size))
    clear hb1 hL0 hGA0 hGR0
    have cA0 := blk_cell hGA1.out 0
    have cA1 := blk_cell hGA1.out 1
    simp at cA0 cA1
    have kR := blk_cell hGR1.out
    have fR := blk_free hGR1.out
    go_wp2_with fail
    refine bodyPost_ret (v := .agg #[.slice none 0 0, .slice none 0 0, .int .i64 0, .int .i64 1]) (by simp [results, Try.results67, go_sem, *]) rfl ⟨rfl, ?_⟩
    repeat (refine below_at ?_ (by omega))
    exact hL1.out
  rw [hr] at HS
  cases hi : inB s.slots.length c
  · have EB : beginAns s c = 1 := by
      unfold beginAns atB
      rw [hr]
      unfold inB at hi
      simp at hi
      rw [if_neg (by simp; omega)]
    have EC : getC s c = 1 := by unfold getC; rw [EB, if_neg (by decide)]
    refine Calls.mono (R := fun e w' => e = .returned (.agg #[.slice none 0 0, .slice none 0 0, .int .i64 0, .int .i64 1]) ∧ Below w.heap.size w w') ?_ (ILL.out 1 (by decide) EC)
    rw [hi] at HI
    clear hr hR ILL EB EC hi
    have hGA0 : Hid (((w.alloc (.cells #[.slice aS s.slots.length cS, .slice aH s.heads.length cH] 32)).alloc (.cells #[.slice none 0 0, .slice none 0 0, .int .i64 0, .int .i64 0] 80)).heap[w.heap.size]? = some (.cells #[.slice aS s.slots.length cS, .slice aH s.heads.length cH] 32)) := by
      show _ = _
      have := blk_alloc (heap_newG w (.cells #[.slice aS s.slots.length cS, .slice aH s.heads.length cH] 32)) (.cells #[.slice none 0 0, .slice none 0 0, .int .i64 0, .int .i64 0] 80)
      simpa using this
    have hGR0 : Hid (((w.alloc (.cells #[.slice aS s.slots.length cS, .slice aH s.heads.length cH] 32)).alloc (.cells #[.slice none 0 0, .slice none 0 0, .int .i64 0, .int .i64 0] 80)).heap[w.heap.size + 1]? = some (.cells #[.slice none 0 0, .slice none 0 0, .int .i64 0, .int .i64 0] 80)) := by
      show _ = _
      have := heap_newG (w.alloc (.cells #[.slice aS s.slots.length cS, .slice aH s.heads.length cH] 32)) (.cells #[.slice none 0 0, .slice none 0 0, .int .i64 0, .int .i64 0] 80)
      simpa using this
    have hL0 := hidS (((Below.refl w.heap.size w).alloc (Nat.le_refl _) (.cells #[.slice aS s.slots.length cS, .slice aH s.heads.length cH] 32)).alloc (by simp) (.cells #[.slice none 0 0, .slice none 0 0, .int .i64 0, .int .i64 0] 80))
    go_enter Try.func67, Try.ntmps67
    go_wp2_with fail
    refine (HS.out _ hL0.out).mono ?_
    rintro _ w1 ⟨rfl, hb1⟩
    have hGA1 := hidS (blk_later hGA0.out hb1)
    have hGR1 := hidS (blk_later hGR0.out hb1)
    have hL1 := hidS (hL0.out.trans (hb1.mono hL0.out.size))
    clear hb1 hL0 hGA0 hGR0
    have cA0 := blk_cell hGA1.out 0
    have cA1 := blk_cell hGA1.out 1
    simp at cA0 cA1
    go_wp2_with fail
    refine (HI.out _).mono ?_
    rintro _ w2 ⟨rfl, hb2⟩
    clear cA0 cA1
    have hGA2 := hidS (blk_later hGA1.out hb2)
    have hGR2 := hidS (blk_later hGR1.out hb2)
    have hL2 := hidS (hL1.out.trans (hb2.mono hL1.out.size))
    clear hb2 hL1 hGA1 hGR1
    have kR := blk_cell hGR2.out
    have fR := blk_free hGR2.out
    go_wp2_with fail
    refine bodyPost_ret (v := .agg #[.slice none 0 0, .slice none 0 0, .int .i64 0, .int .i64 1]) (by simp [results, Try.results67, go_sem, *]) rfl ⟨rfl, ?_⟩
    repeat (refine below_at ?_ (by omega))
    exact hL2.out
  rw [hi] at HI
  obtain ⟨C, rfl, hC⟩ : ∃ C : Nat, c = (C : Int) ∧ C < s.slots.length := by
    unfold inB at hi; simp at hi; exact ⟨c.toNat, by omega, by omega⟩
  have hCC : (0 : Int) ≤ (C : Int) ∧ (C : Int) < (s.slots.length : Int) := by omega
  have EAT : atB s (C : Int) = true := by unfold atB; rw [hr]; simp; omega
  obtain ⟨_, n1, n2, n3, n4⟩ := right_leads hr
  obtain ⟨bS, oS, rfl, _⟩ := hR.slots.slot hC
  obtain ⟨bH, oH, rfl, _⟩ := hR.heads 0 (by omega)
  obtain ⟨x, hx⟩ : ∃ x, s.slots.getD C zeroSlt = x := ⟨_, rfl⟩
  have EX : Hid (slotN s (C : Int) = x) := by show _ = _; rw [slot_nat]; exact hx
  have hx0 := refs_nat hr hC
  rw [hx] at hx0
  obtain ⟨hx0, hx1⟩ := hx0
  have HSL : Hid (∀ W, Below w.heap.size w W → bS < W.heap.size ∧ W.cell? ⟨bS, oS + C * 4, none⟩ = some (.int .i64 x.key) ∧ W.cell? ⟨bS, oS + C * 4 + 1, none⟩ = some (.int .i64 x.gen) ∧ W.cell? ⟨bS, oS + C * 4 + 2, none⟩ = some (.int .i64 x.refs) ∧ W.cell? ⟨bS, oS + C * 4 + 3, none⟩ = some (.int .i64 x.next)) := hidS (fun W h => by
    obtain ⟨b', o', eS, lS, c0, c1, c2, c3⟩ := (hR.slots.later h).slot hC
    injection eS with eS; injection eS with eS1 eS2
    subst eS1 eS2
    rw [hx] at c0 c1 c2 c3
    exact ⟨lS, c0, c1, c2, c3⟩)
  have HFR := hidS (fun W => isFree_any x W)
  by_cases hz : x.refs = 0
  · have EB : beginAns s (C : Int) = 6 := by unfold beginAns; rw [if_pos EAT, EX.out, if_pos hz]
    have EC : getC s (C : Int) = 6 := by unfold getC; rw [EB, if_neg (by decide)]
    refine Calls.mono (R := fun e w' => e = .returned (.agg #[.slice none 0 0, .slice none 0 0, .int .i64 0, .int .i64 6]) ∧ Below w.heap.size w w') ?_ (ILL.out 6 (by decide) EC)
    rw [decide_eq_true hz] at HFR
    clear hr hR ILL EB EC hi hz EAT hx hx0 hx1
    have hGA0 : Hid (((w.alloc (.cells #[.slice (some ⟨bS, oS, none⟩) s.slots.length cS, .slice (some ⟨bH, oH, none⟩) s.heads.length cH] 32)).alloc (.cells #[.slice none 0 0, .slice none 0 0, .int .i64 0, .int .i64 0] 80)).heap[w.heap.size]? = some (.cells #[.slice (some ⟨bS, oS, none⟩) s.slots.length cS, .slice (some ⟨bH, oH, none⟩) s.heads.length cH] 32)) := by
      show _ = _
      have := blk_alloc (heap_newG w (.cells #[.slice (some ⟨bS, oS, none⟩) s.slots.length cS, .slice (some ⟨bH, oH, none⟩) s.heads.length cH] 32)) (.cells #[.slice none 0 0, .slice none 0 0, .int .i64 0, .int .i64 0] 80)
      simpa using this
    have hGR0 : Hid (((w.alloc (.cells #[.slice (some ⟨bS, oS, none⟩) s.slots.length cS, .slice (some ⟨bH, oH, none⟩) s.heads.length cH] 32)).alloc (.cells #[.slice none 0 0, .slice none 0 0, .int .i64 0, .int .i64 0] 80)).heap[w.heap.size + 1]? = some (.cells #[.slice none 0 0, .slice none 0 0, .int .i64 0, .int .i64 0] 80)) := by
      show _ = _
      have := heap_newG (w.alloc (.cells #[.slice (some ⟨bS, oS, none⟩) s.slots.length cS, .slice (some ⟨bH, oH, none⟩) s.heads.length cH] 32)) (.cells #[.slice none 0 0, .slice none 0 0, .int .i64 0, .int .i64 0] 80)
      simpa using this
    have hL0 := hidS (((Below.refl w.heap.size w).alloc (Nat.le_refl _) (.cells #[.slice (some ⟨bS, oS, none⟩) s.slots.length cS, .slice (some ⟨bH, oH, none⟩) s.heads.length cH] 32)).alloc (by simp) (.cells #[.slice none 0 0, .slice none 0 0, .int .i64 0, .int .i64 0] 80))
    go_enter Try.func67, Try.ntmps67
    go_wp2_with fail
    refine (HS.out _ hL0.out).mono ?_
    rintro _ w1 ⟨rfl, hb1⟩
    have hGA1 := hidS (blk_later hGA0.out hb1)
    have hGR1 := hidS (blk_later hGR0.out hb1)
    have hL1 := hidS (hL0.out.trans (hb1.mono hL0.out.size))
    clear hb1 hL0 hGA0 hGR0
    have cA0 := blk_cell hGA1.out 0
    have cA1 := blk_cell hGA1.out 1
    simp at cA0 cA1
    go_wp2_with fail
    refine (HI.out _).mono ?_
    rintro _ w2 ⟨rfl, hb2⟩
    clear cA0 cA1
    have hGA2 := hidS (blk_later hGA1.out hb2)
    have hGR2 := hidS (blk_later hGR1.out hb2)
    have hL2 := hidS (hL1.out.trans (hb2.mono hL1.out.size))
    clear hb2 hL1 hGA1 hGR1
    have cA0 := blk_cell hGA2.out 0
    have cA1 := blk_cell hGA2.out 1
    simp at cA0 cA1
    obtain ⟨lS, c0, c1, c2, c3⟩ := HSL.out _ hL2.out
    go_wp2_with fail
    refine (HFR.out _).mono ?_
    rintro _ w3 ⟨rfl, hb3⟩
    clear cA0 cA1 c0 c1 c2 c3
    have hGA3 := hidS (blk_later hGA2.out hb3)
    have hGR3 := hidS (blk_later hGR2.out hb3)
    have hL3 := hidS (hL2.out.trans (hb3.mono hL2.out.size))
    clear hb3 hL2 hGA2 hGR2
    have kR := blk_cell hGR3.out
    have fR := blk_free hGR3.out
    go_wp2_with fail
    refine bodyPost_ret (v := .agg #[.slice none 0 0, .slice none 0 0, .int .i64 0, .int .i64 6]) (by simp [results, Try.results67, go_sem, *]) rfl ⟨rfl, ?_⟩
    repeat (refine below_at ?_ (by omega))
    exact hL3.out
  rw [decide_eq_false hz] at HFR
  have EB : Hid (beginAns s (C : Int) = 0) := by show _ = _; unfold beginAns; rw [if_pos EAT, EX.out, if_neg hz]
  by_cases hf : x.refs = 1000000
  · have EC : getC s (C : Int) = 9 := by unfold getC; rw [if_pos EB.out, EX.out, if_pos (by omega)]
    refine Calls.mono (R := fun e w' => e = .returned (.agg #[.slice none 0 0, .slice none 0 0, .int .i64 0, .int .i64 9]) ∧ Below w.heap.size w w') ?_ (ILL.out 9 (by decide) EC)
    have hfb : (x.refs == 1000000) = true := beq_iff_eq.2 hf
    clear hr hR ILL EB EC hi hz EAT hx hx0 hx1 hf
    have hGA0 : Hid (((w.alloc (.cells #[.slice (some ⟨bS, oS, none⟩) s.slots.length cS, .slice (some ⟨bH, oH, none⟩) s.heads.length cH] 32)).alloc (.cells #[.slice none 0 0, .slice none 0 0, .int .i64 0, .int .i64 0] 80)).heap[w.heap.size]? = some (.cells #[.slice (some ⟨bS, oS, none⟩) s.slots.length cS, .slice (some ⟨bH, oH, none⟩) s.heads.length cH] 32)) := by
      show _ = _
      have := blk_alloc (heap_newG w (.cells #[.slice (some ⟨bS, oS, none⟩) s.slots.length cS, .slice (some ⟨bH, oH, none⟩) s.heads.length cH] 32)) (.cells #[.slice none 0 0, .slice none 0 0, .int .i64 0, .int .i64 0] 80)
      simpa using this
    have hGR0 : Hid (((w.alloc (.cells #[.slice (some ⟨bS, oS, none⟩) s.slots.length cS, .slice (some ⟨bH, oH, none⟩) s.heads.length cH] 32)).alloc (.cells #[.slice none 0 0, .slice none 0 0, .int .i64 0, .int .i64 0] 80)).heap[w.heap.size + 1]? = some (.cells #[.slice none 0 0, .slice none 0 0, .int .i64 0, .int .i64 0] 80)) := by
      show _ = _
      have := heap_newG (w.alloc (.cells #[.slice (some ⟨bS, oS, none⟩) s.slots.length cS, .slice (some ⟨bH, oH, none⟩) s.heads.length cH] 32)) (.cells #[.slice none 0 0, .slice none 0 0, .int .i64 0, .int .i64 0] 80)
      simpa using this
    have hL0 := hidS (((Below.refl w.heap.size w).alloc (Nat.le_refl _) (.cells #[.slice (some ⟨bS, oS, none⟩) s.slots.length cS, .slice (some ⟨bH, oH, none⟩) s.heads.length cH] 32)).alloc (by simp) (.cells #[.slice none 0 0, .slice none 0 0, .int .i64 0, .int .i64 0] 80))
    go_enter Try.func67, Try.ntmps67
    go_wp2_with fail
    refine (HS.out _ hL0.out).mono ?_
    rintro _ w1 ⟨rfl, hb1⟩
    have hGA1 := hidS (blk_later hGA0.out hb1)
    have hGR1 := hidS (blk_later hGR0.out hb1)
    have hL1 := hidS (hL0.out.trans (hb1.mono hL0.out.size))
    clear hb1 hL0 hGA0 hGR0
    have cA0 := blk_cell hGA1.out 0
    have cA1 := blk_cell hGA1.out 1
    simp at cA0 cA1
    go_wp2_with fail
    refine (HI.out _).mono ?_
    rintro _ w2 ⟨rfl, hb2⟩
    clear cA0 cA1
    have hGA2 := hidS (blk_later hGA1.out hb2)
    have hGR2 := hidS (blk_later hGR1.out hb2)
    have hL2 := hidS (hL1.out.trans (hb2.mono hL1.out.size))
    clear hb2 hL1 hGA1 hGR1
    have cA0 := blk_cell hGA2.out 0
    have cA1 := blk_cell hGA2.out 1
    simp at cA0 cA1
    obtain ⟨lS, c0, c1, c2, c3⟩ := HSL.out _ hL2.out
    go_wp2_with fail
    refine (HFR.out _).mono ?_
    rintro _ w3 ⟨rfl, hb3⟩
    clear cA0 cA1 c0 c1 c2 c3
    have hGA3 := hidS (blk_later hGA2.out hb3)
    have hGR3 := hidS (blk_later hGR2.out hb3)
    have hL3 := hidS (hL2.out.trans (hb3.mono hL2.out.size))
    clear hb3 hL2 hGA2 hGR2
    have cA0 := blk_cell hGA3.out 0
    have cA1 := blk_cell hGA3.out 1
    simp at cA0 cA1
    obtain ⟨lS, c0, c1, c2, c3⟩ := HSL.out _ hL3.out
    have cA0 := blk_cell hGA3.out 0
    have cA1 := blk_cell hGA3.out 1
    simp at cA0 cA1
    have kR := blk_cell hGR3.out
    have fR := blk_free hGR3.out
    go_wp2_with fail
    refine bodyPost_ret (v := .agg #[.slice none 0 0, .slice none 0 0, .int .i64 0, .int .i64 9]) (by simp [results, Try.results67, go_sem, *]) rfl ⟨rfl, ?_⟩
    repeat (refine below_at ?_ (by omega))
    exact hL3.out
  have hfb : (x.refs == 1000000) = false := beq_eq_false_iff_ne.2 hf
  have EC : getC s (C : Int) = 0 := by unfold getC; rw [if_pos EB.out, EX.out, if_neg (by omega)]
  have ES : getS s (C : Int) = refS s (C : Int) ((slotN s (C : Int)).refs + 1) := by unfold getS; rw [EC, if_pos rfl]
  have EA : getA s (C : Int) = (C : Int) := by unfold getA; rw [EC, if_pos rfl]
  have HMO := hidS (fun W (h : Below w.heap.size w W) => moreRefs_any bS oS bH oH cS cH s C 1 W (hR.later h) hr hC (by omega) (by omega))
  rw [ES, EA, EC]
  have hlen : Hid ((refS s (C : Int) ((slotN s (C : Int)).refs + 1)).slots.length = s.slots.length ∧ (refS s (C : Int) ((slotN s (C : Int)).refs + 1)).heads.length = s.heads.length) := by show _ ∧ _; simp [refS]
  generalize refS s (C : Int) ((slotN s (C : Int)).refs + 1) = t at HMO hlen ⊢
  clear hr hR ILL EB EC ES EA hi hz EAT hx hx0 hx1 hf
  have hGA0 : Hid (((w.alloc (.cells #[.slice (some ⟨bS, oS, none⟩) s.slots.length cS, .slice (some ⟨bH, oH, none⟩) s.heads.length cH] 32)).alloc (.cells #[.slice none 0 0, .slice none 0 0, .int .i64 0, .int .i64 0] 80)).heap[w.heap.size]? = some (.cells #[.slice (some ⟨bS, oS, none⟩) s.slots.length cS, .slice (some ⟨bH, oH, none⟩) s.heads.length cH] 32)) := by
    show _ = _
    have := blk_alloc (heap_newG w (.cells #[.slice (some ⟨bS, oS, none⟩) s.slots.length cS, .slice (some ⟨bH, oH, none⟩) s.heads.length cH] 32)) (.cells #[.slice none 0 0, .slice none 0 0, .int .i64 0, .int .i64 0] 80)
    simpa using this
  have hGR0 : Hid (((w.alloc (.cells #[.slice (some ⟨bS, oS, none⟩) s.slots.length cS, .slice (some ⟨bH, oH, none⟩) s.heads.length cH] 32)).alloc (.cells #[.slice none 0 0, .slice none 0 0, .int .i64 0, .int .i64 0] 80)).heap[w.heap.size + 1]? = some (.cells #[.slice none 0 0, .slice none 0 0, .int .i64 0, .int .i64 0] 80)) := by
    show _ = _
    have := heap_newG (w.alloc (.cells #[.slice (some ⟨bS, oS, none⟩) s.slots.length cS, .slice (some ⟨bH, oH, none⟩) s.heads.length cH] 32)) (.cells #[.slice none 0 0, .slice none 0 0, .int .i64 0, .int .i64 0] 80)
    simpa using this
  have hL0 := hidS (((Below.refl w.heap.size w).alloc (Nat.le_refl _) (.cells #[.slice (some ⟨bS, oS, none⟩) s.slots.length cS, .slice (some ⟨bH, oH, none⟩) s.heads.length cH] 32)).alloc (by simp) (.cells #[.slice none 0 0, .slice none 0 0, .int .i64 0, .int .i64 0] 80))
  go_enter Try.func67, Try.ntmps67
  go_wp2_with fail
  refine (HS.out _ hL0.out).mono ?_
  rintro _ w1 ⟨rfl, hb1⟩
  have hGA1 := hidS (blk_later hGA0.out hb1)
  have hGR1 := hidS (blk_later hGR0.out hb1)
  have hL1 := hidS (hL0.out.trans (hb1.mono hL0.out.size))
  clear hb1 hL0 hGA0 hGR0
  have cA0 := blk_cell hGA1.out 0
  have cA1 := blk_cell hGA1.out 1
  simp at cA0 cA1
  go_wp2_with fail
  refine (HI.out _).mono ?_
  rintro _ w2 ⟨rfl, hb2⟩
  clear cA0 cA1
  have hGA2 := hidS (blk_later hGA1.out hb2)
  have hGR2 := hidS (blk_later hGR1.out hb2)
  have hL2 := hidS (hL1.out.trans (hb2.mono hL1.out.size))
  clear hb2 hL1 hGA1 hGR1
  have cA0 := blk_cell hGA2.out 0
  have cA1 := blk_cell hGA2.out 1
  simp at cA0 cA1
  obtain ⟨lS, c0, c1, c2, c3⟩ := HSL.out _ hL2.out
  go_wp2_with fail
  refine (HFR.out _).mono ?_
  rintro _ w3 ⟨rfl, hb3⟩
  clear cA0 cA1 c0 c1 c2 c3
  have hGA3 := hidS (blk_later hGA2.out hb3)
  have hGR3 := hidS (blk_later hGR2.out hb3)
  have hL3 := hidS (hL2.out.trans (hb3.mono hL2.out.size))
  clear hb3 hL2 hGA2 hGR2
  have cA0 := blk_cell hGA3.out 0
  have cA1 := blk_cell hGA3.out 1
  simp at cA0 cA1
  obtain ⟨lS, c0, c1, c2, c3⟩ := HSL.out _ hL3.out
  go_wp2_with fail
  refine (HMO.out _ hL3.out).mono ?_
  rintro _ w4 ⟨aS2, cS2, aH2, cH2, rfl, hO, hb4⟩
  have lR := blk_lt hGR3.out
  have hGR4 := hidS (blk_later hGR3.out hb4)
  have hL4 := hidS (hL3.out.trans (hb4.mono hL3.out.size))
  have HO := hidS hO
  clear hb4 hO cA0 cA1 c0 c1 c2 c3 hGA3 hL3 hGR3
  have kR := blk_cell hGR4.out
  have fR := blk_free hGR4.out
  go_wp2_with fail
  refine bodyPost_ret (v := .agg #[.slice aS2 t.slots.length cS2, .slice aH2 t.heads.length cH2, .int .i64 (C : Int), .int .i64 0]) (by simp [results, Try.results67, go_sem, *]) rfl ?_
  refine ⟨aS2, cS2, aH2, cH2, rfl, ?_, ?_⟩
  · refine SlabO.low (lo := w.heap.size + 2) ?_ (by omega)
    repeat (refine SlabO.other ?_ (by omega))
    exact HO.out.low (by omega)
  · repeat (refine below_at ?_ (by omega))
    exact hL4.out
end Go.Proofs.Ytjhkaideckgffaa
