/- Proved here: impl.moreRefs answers the slab with so many holders more at a slot, in memory of its own; all old memory stays (conditions: the slab's rows can be read; it is right; one more or one less). -/
import Derived.Test.YtjhkaideckgffaaSlabCopyI
import Derived.Test.YtjhkaideckgffaaSlabRows
import Derived.Test.YtjhkaideckgffaaSlabDefs
namespace Go.Proofs.Ytjhkaideckgffaa
open Go.ChangeShapes Go.WideShapes Go.ChangeAt Go.RowKit
set_option linter.unusedVariables false
set_option linter.unusedSimpArgs false
set_option maxRecDepth 100000

set_option maxHeartbeats 4000000 in
theorem moreRefs_any (bS oS bH oH cS cH : Nat) (s : Slb) (C : Nat) (m : Int) (w : World) (hR : SlabZ (some ⟨bS, oS, none⟩) (some ⟨bH, oH, none⟩) s w) (hr : rightSl s = true) (hC : C < s.slots.length) (m0 : -1 ≤ m) (m1 : m ≤ 1) :
    Calls Try.prog 75 #[.agg #[.slice (some ⟨bS, oS, none⟩) s.slots.length cS, .slice (some ⟨bH, oH, none⟩) s.heads.length cH], .int .i64 (C : Int), .int .i64 m] w fun e w' => OutAns (refS s (C : Int) ((slotN s (C : Int)).refs + m)) (C : Int) 0 w e w' := by
  obtain ⟨_, n1, n2, n3, n4⟩ := right_leads hr
  have hCC : (0 : Int) ≤ (C : Int) ∧ (C : Int) < (s.slots.length : Int) := by omega
  obtain ⟨x, hx⟩ : ∃ x, s.slots.getD C zeroSlt = x := ⟨_, rfl⟩
  have EX : Hid (slotN s (C : Int) = x) := by show _ = _; rw [slot_nat]; exact hx
  have hx0 := refs_nat hr hC
  rw [hx] at hx0
  obtain ⟨hx0, hx1⟩ := hx0
  have HCP := hidS (fun W (h : Below w.heap.size w W) => copySlab_any bS oS bH oH cS cH s W (hR.later h) n1 n2 n3 n4)
  have HX := hidS hx
  rw [EX.out]
  clear hR hr hx
  have hGA0 : Hid (((w.alloc (.cells #[.slice (some ⟨bS, oS, none⟩) s.slots.length cS, .slice (some ⟨bH, oH, none⟩) s.heads.length cH] 32)).alloc (.cells #[.slice none 0 0, .slice none 0 0, .int .i64 0, .int .i64 0] 80)).heap[w.heap.size]? = some (.cells #[.slice (some ⟨bS, oS, none⟩) s.slots.length cS, .slice (some ⟨bH, oH, none⟩) s.heads.length cH] 32)) := by
    show _ = _
    have := blk_alloc (heap_newG w (.cells #[.slice (some ⟨bS, oS, none⟩) s.slots.length cS, .slice (some ⟨bH, oH, none⟩) s.heads.length cH] 32)) (.cells #[.slice none 0 0, .slice none 0 0, .int .i64 0, .int .i64 0] 80)
    simpa using this
  have hGR0 : Hid (((w.alloc (.cells #[.slice (some ⟨bS, oS, none⟩) s.slots.length cS, .slice (some ⟨bH, oH, none⟩) s.heads.length cH] 32)).alloc (.cells #[.slice none 0 0, .slice none 0 0, .int .i64 0, .int .i64 0] 80)).heap[w.heap.size + 1]? = some (.cells #[.slice none 0 0, .slice none 0 0, .int .i64 0, .int .i64 0] 80)) := by
    show _ = _
    have := heap_newG (w.alloc (.cells #[.slice (some ⟨bS, oS, none⟩) s.slots.length cS, .slice (some ⟨bH, oH, none⟩) s.heads.length cH] 32)) (.cells #[.slice none 0 0, .slice none 0 0, .int .i64 0, .int .i64 0] 80)
    simpa using this
  have hL0 := hidS (((Below.refl w.heap.size w).alloc (Nat.le_refl _) (.cells #[.slice (some ⟨bS, oS, none⟩) s.slots.length cS, .slice (some ⟨bH, oH, none⟩) s.heads.length cH] 32)).alloc (by simp) (.cells #[.slice none 0 0, .slice none 0 0, .int .i64 0, .int .i64 0] 80))
  go_enter Try.func75, Try.ntmps75
  go_wp2_with fail
  refine (HCP.out _ hL0.out).mono ?_
  intro e w1 hans
  obtain ⟨b2, o2, cS2, b3, o3, cH2, rfl, p1, q1, hne, p3, q3, hb1⟩ := hans.rows n1 n3
  have hGA1 := hidS (blk_later hGA0.out hb1)
  have hGR1 := hidS (blk_later hGR0.out hb1)
  have hL1 := hidS (hL0.out.trans (hb1.mono hL0.out.size))
  have lR0 := blk_lt hGR0.out
  clear hans hGA0 hGR0 hL0 hb1 HCP
  have P2 := hidS (p3.later ((Below.refl w1.heap.size w1).alloc (Nat.le_refl _) (.cells #[.slice (some ⟨b2, o2, none⟩) s.slots.length cS2, .slice (some ⟨b3, o3, none⟩) s.heads.length cH2] 32)))
  have Q2 := hidS (q3.later ((Below.refl w1.heap.size w1).alloc (Nat.le_refl _) (.cells #[.slice (some ⟨b2, o2, none⟩) s.slots.length cS2, .slice (some ⟨b3, o3, none⟩) s.heads.length cH2] 32)))
  have lb2 := p3.lt
  have lb3 := q3.lt
  clear p3 q3
  go_upto_region 2 with fail
  have hGO2 := hidS (heap_newG w1 (.cells #[.slice (some ⟨b2, o2, none⟩) s.slots.length cS2, .slice (some ⟨b3, o3, none⟩) s.heads.length cH2] 32))
  have nO := blk_lt hGR1.out
  have hGA2 := hidS (blk_alloc hGA1.out (.cells #[.slice (some ⟨b2, o2, none⟩) s.slots.length cS2, .slice (some ⟨b3, o3, none⟩) s.heads.length cH2] 32))
  have hGR2 := hidS (blk_alloc hGR1.out (.cells #[.slice (some ⟨b2, o2, none⟩) s.slots.length cS2, .slice (some ⟨b3, o3, none⟩) s.heads.length cH2] 32))
  have hL2 := hidS (hL1.out.alloc hL1.out.size (.cells #[.slice (some ⟨b2, o2, none⟩) s.slots.length cS2, .slice (some ⟨b3, o3, none⟩) s.heads.length cH2] 32))
  clear hL1 hGA1 hGR1
  generalize w1.alloc (.cells #[.slice (some ⟨b2, o2, none⟩) s.slots.length cS2, .slice (some ⟨b3, o3, none⟩) s.heads.length cH2] 32) = w2 at P2 Q2 hGA2 hGR2 hGO2 hL2 ⊢
  have cO0 := blk_cell hGO2.out 0
  have cO1 := blk_cell hGO2.out 1
  simp at cO0 cO1
  obtain ⟨b2', o2', eS, _, c0, c1, d2, c3⟩ := P2.out.read.slot hC
  injection eS with eS; injection eS with eS1 eS2
  subst eS1 eS2
  rw [HX.out] at d2
  clear c0 c1 c3
  have f2 := (rowB_cells P2.out (4 * C + 2) (by rw [flat_len]; omega)).2
  rw [show o2 + (4 * C + 2) = o2 + C * 4 + 2 by omega] at f2
  have z0 : w.heap.size + 1 < b2 ∧ w.heap.size + 1 < b3 := by simp at p1 q1; omega
  have P3 : Hid (RowB b2 o2 (flat (refS s (C : Int) (x.refs + m)).slots) ((w2.setCell ⟨b2, o2 + C * 4 + 2, none⟩ (.int .i64 (x.refs + m))))) := by
    have h := P2.out.set (4 * C + 2) (x.refs + m) (by rw [flat_len]; omega)
    rw [flat_refs _ _ _ hC, HX.out, show o2 + (4 * C + 2) = o2 + C * 4 + 2 by omega] at h
    have e : (refS s (C : Int) (x.refs + m)).slots = s.slots.set C { x with refs := x.refs + m } := by unfold refS; rw [EX.out]; rfl
    show RowB _ _ _ _
    rw [e]
    exact h
  have Q3 : Hid (RowB b3 o3 s.heads ((w2.setCell ⟨b2, o2 + C * 4 + 2, none⟩ (.int .i64 (x.refs + m))))) := hidS (RowB.other (g := b2) (k := o2 + C * 4 + 2) (v := .int .i64 (x.refs + m)) Q2.out (fun e => hne e.symm))
  have hGR3 : Hid (((w2.setCell ⟨b2, o2 + C * 4 + 2, none⟩ (.int .i64 (x.refs + m)))).heap[w.heap.size + 1]? = some (.cells #[.slice none 0 0, .slice none 0 0, .int .i64 0, .int .i64 0] 80)) := hidS (blk_other (B := b2) hGR2.out (by omega) (o2 + C * 4 + 2) (.int .i64 (x.refs + m)))
  have hGO3 : Hid (((w2.setCell ⟨b2, o2 + C * 4 + 2, none⟩ (.int .i64 (x.refs + m)))).heap[w1.heap.size]? = some (.cells #[.slice (some ⟨b2, o2, none⟩) s.slots.length cS2, .slice (some ⟨b3, o3, none⟩) s.heads.length cH2] 32)) := hidS (blk_other (B := b2) hGO2.out (by omega) (o2 + C * 4 + 2) (.int .i64 (x.refs + m)))
  have hL3 : Hid (Below w.heap.size w ((w2.setCell ⟨b2, o2 + C * 4 + 2, none⟩ (.int .i64 (x.refs + m))))) := hidS (below_at (k := o2 + C * 4 + 2) (b := b2) (v := .int .i64 (x.refs + m)) hL2.out (by omega))
  go_upto_region 3 with fail
  clear P2 Q2 hGA2 hGR2 hGO2 hL2 cO0 cO1 d2 f2
  generalize (w2.setCell ⟨b2, o2 + C * 4 + 2, none⟩ (.int .i64 (x.refs + m))) = w3 at P3 Q3 hGR3 hGO3 hL3 ⊢
  have cO0 := blk_cell hGO3.out 0
  have cO1 := blk_cell hGO3.out 1
  simp at cO0 cO1
  have kR := blk_cell hGR3.out
  have fR := blk_free hGR3.out
  have hlen : Hid ((refS s (C : Int) (x.refs + m)).slots.length = s.slots.length) := by show _ = _; simp [refS]
  go_wp2_with fail
  refine bodyPost_ret (v := .agg #[.slice (some ⟨b2, o2, none⟩) s.slots.length cS2, .slice (some ⟨b3, o3, none⟩) s.heads.length cH2, .int .i64 (C : Int), .int .i64 0]) (by simp [results, Try.results75, go_sem, *]) rfl ?_
  refine ⟨some ⟨b2, o2, none⟩, cS2, some ⟨b3, o3, none⟩, cH2, by rw [hlen.out]; rfl, rows_own (by omega) (by omega) hne ?_ ?_, ?_⟩
  · repeat (refine RowB.other ?_ (by omega))
    exact P3.out
  · repeat (refine RowB.other ?_ (by omega))
    exact Q3.out
  · repeat (refine below_at ?_ (by omega))
    exact hL3.out
end Go.Proofs.Ytjhkaideckgffaa
