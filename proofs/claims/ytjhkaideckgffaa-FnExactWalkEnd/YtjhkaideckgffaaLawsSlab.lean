/- Proved here: the laws' own helpers over slabs: a copy is new, two alike are alike, what is marked is held (conditions: their rows can be read, or written; at most 2^20 numbers). -/
import Derived.Test.YtjhkaideckgffaaLawsSlots
import Derived.Deep.Cut
import Derived.Deep.DeepCutAuto
import Derived.Deep.CutBlock
namespace Go.Proofs.Ytjhkaideckgffaa
open Go.ChangeShapes Go.WideShapes Go.ChangeAt Go.RowKit
set_option linter.unusedVariables false
set_option linter.unusedSimpArgs false
set_option maxRecDepth 100000

set_option maxHeartbeats 2000000 in
theorem toSlab_any (aS aH : Option Addr) (cS cH : Nat) (s : Slb) (w : World) (hR : SlabZ aS aH s w) (h1 : s.slots.length ≤ 1048576) (h2 : s.heads.length ≤ 1048576) :
    Calls Try.prog 9 #[.agg #[.slice aS s.slots.length cS, .slice aH s.heads.length cH]] w fun e w' => ∃ bS bH, e = .returned (.agg #[.slice bS s.slots.length s.slots.length, .slice bH s.heads.length s.heads.length]) ∧ SlabO w.heap.size w'.heap.size bS bH s w' ∧ Below w.heap.size w w' := by
  have HR := hidS hR
  clear hR
  have hA0 : Hid ((((w.alloc (.cells #[.slice aS s.slots.length cS, .slice aH s.heads.length cH] 25)).alloc (.cells #[.slice none 0 0, .slice none 0 0] 32)).alloc (.cells #[.slice none 0 0, .slice none 0 0] 32)).heap[w.heap.size]? = some (.cells #[.slice aS s.slots.length cS, .slice aH s.heads.length cH] 25)) := by
    show _ = _
    have := blk_alloc (blk_alloc (heap_newG w (.cells #[.slice aS s.slots.length cS, .slice aH s.heads.length cH] 25)) (.cells #[.slice none 0 0, .slice none 0 0] 32)) (.cells #[.slice none 0 0, .slice none 0 0] 32)
    simpa using this
  have hR0 : Hid ((((w.alloc (.cells #[.slice aS s.slots.length cS, .slice aH s.heads.length cH] 25)).alloc (.cells #[.slice none 0 0, .slice none 0 0] 32)).alloc (.cells #[.slice none 0 0, .slice none 0 0] 32)).heap[w.heap.size + 1]? = some (.cells #[.slice none 0 0, .slice none 0 0] 32)) := by
    show _ = _
    have := blk_alloc (heap_newG (w.alloc (.cells #[.slice aS s.slots.length cS, .slice aH s.heads.length cH] 25)) (.cells #[.slice none 0 0, .slice none 0 0] 32)) (.cells #[.slice none 0 0, .slice none 0 0] 32)
    simpa using this
  have hO0 : Hid ((((w.alloc (.cells #[.slice aS s.slots.length cS, .slice aH s.heads.length cH] 25)).alloc (.cells #[.slice none 0 0, .slice none 0 0] 32)).alloc (.cells #[.slice none 0 0, .slice none 0 0] 32)).heap[w.heap.size + 1 + 1]? = some (.cells #[.slice none 0 0, .slice none 0 0] 32)) := by
    show _ = _
    have := heap_newG ((w.alloc (.cells #[.slice aS s.slots.length cS, .slice aH s.heads.length cH] 25)).alloc (.cells #[.slice none 0 0, .slice none 0 0] 32)) (.cells #[.slice none 0 0, .slice none 0 0] 32)
    simpa using this
  have hL0 : Hid (Below w.heap.size w (((w.alloc (.cells #[.slice aS s.slots.length cS, .slice aH s.heads.length cH] 25)).alloc (.cells #[.slice none 0 0, .slice none 0 0] 32)).alloc (.cells #[.slice none 0 0, .slice none 0 0] 32))) := hidS ((((Below.refl w.heap.size w).alloc (Nat.le_refl _) (.cells #[.slice aS s.slots.length cS, .slice aH s.heads.length cH] 25)).alloc (by simp) (.cells #[.slice none 0 0, .slice none 0 0] 32)).alloc (by simp; omega) (.cells #[.slice none 0 0, .slice none 0 0] 32))
  go_enter Try.func9, Try.ntmps9
  go_wp2_with fail
  generalize (((w.alloc (.cells #[.slice aS s.slots.length cS, .slice aH s.heads.length cH] 25)).alloc (.cells #[.slice none 0 0, .slice none 0 0] 32)).alloc (.cells #[.slice none 0 0, .slice none 0 0] 32)) = w0 at hA0 hR0 hO0 hL0 ⊢
  refine (toSlots_any aS cS s.slots w0 (HR.out.slots.later hL0.out) h1).mono ?_
  rintro _ w1 ⟨bS, rfl, lS, hS1, hb1⟩
  have z0 : w.heap.size + 1 + 1 < w0.heap.size := blk_lt hO0.out
  have z1 := blk_lt hS1
  have hA1 := hidS (blk_later hA0.out hb1)
  have hR1 := hidS (blk_later hR0.out hb1)
  have hO1 := hidS (blk_later hO0.out hb1)
  have hL1 := hidS (hL0.out.trans (hb1.mono hL0.out.size))
  have HS1 := hidS hS1
  clear hA0 hR0 hO0 hb1 hS1
  have o0 := blk_cell hO1.out 0
  have o1 := blk_free hO1.out
  have a1 := blk_cell hA1.out 1
  simp at o0 a1
  have hO2 : Hid ((w1.setCell ⟨w.heap.size + 1 + 1, 0, none⟩ (.slice (some ⟨bS, 0, none⟩) s.slots.length s.slots.length)).heap[w.heap.size + 1 + 1]? = some (.cells #[.slice (some ⟨bS, 0, none⟩) s.slots.length s.slots.length, .slice none 0 0] 32)) := by
    show _ = _
    have := blk_set hO1.out 0 (.slice (some ⟨bS, 0, none⟩) s.slots.length s.slots.length)
    simpa using this
  have ho : ∀ i, i ≠ w.heap.size + 1 + 1 → (w1.setCell ⟨w.heap.size + 1 + 1, 0, none⟩ (.slice (some ⟨bS, 0, none⟩) s.slots.length s.slots.length)).heap[i]? = w1.heap[i]? := fun i hi => Below.heap_setCell w1 ⟨w.heap.size + 1 + 1, 0, none⟩ _ i hi
  have hA2 := hidS ((ho _ (by omega)).trans hA1.out)
  have hR2 := hidS ((ho _ (by omega)).trans hR1.out)
  have HS2 := hidS ((ho bS (by omega)).trans HS1.out)
  have hL2 := hidS (below_at (k := 0) (b := w.heap.size + 1 + 1) (v := .slice (some ⟨bS, 0, none⟩) s.slots.length s.slots.length) hL1.out (by omega))
  clear hO1 hA1 hR1 HS1 hL1 ho
  go_upto_region 3 with fail
  generalize w1.setCell ⟨w.heap.size + 1 + 1, 0, none⟩ (.slice (some ⟨bS, 0, none⟩) s.slots.length s.slots.length) = w2 at hO2 hA2 hR2 HS2 hL2 ⊢
  clear o0 o1 a1
  have a1 := blk_cell hA2.out 1
  simp at a1
  go_wp2_with fail
  refine (toInts_any aH cH s.heads w2 (HR.out.heads.later hL2.out) h2).mono ?_
  rintro _ w3 ⟨bH, rfl, lH, hH3, hb3⟩
  have zS2 : bS < w2.heap.size := blk_lt HS2.out
  have z2 : w.heap.size + 1 + 1 < w2.heap.size := blk_lt hO2.out
  have z3 := blk_lt hH3
  have hR3 := hidS (blk_later hR2.out hb3)
  have hO3 := hidS (blk_later hO2.out hb3)
  have HS3 := hidS (blk_later HS2.out hb3)
  have HH3 := hidS hH3
  have hL3 := hidS (hL2.out.trans (hb3.mono hL2.out.size))
  clear hA2 hR2 hO2 HS2 hb3 hH3 a1
  have o0 := blk_cell hO3.out 0
  have o2 := blk_cell hO3.out 1
  have o1 := blk_free hO3.out
  simp at o0 o2
  have hO4 : Hid ((w3.setCell ⟨w.heap.size + 1 + 1, 1, none⟩ (.slice (some ⟨bH, 0, none⟩) s.heads.length s.heads.length)).heap[w.heap.size + 1 + 1]? = some (.cells #[.slice (some ⟨bS, 0, none⟩) s.slots.length s.slots.length, .slice (some ⟨bH, 0, none⟩) s.heads.length s.heads.length] 32)) := by
    show _ = _
    have := blk_set hO3.out 1 (.slice (some ⟨bH, 0, none⟩) s.heads.length s.heads.length)
    simpa using this
  have ho : ∀ i, i ≠ w.heap.size + 1 + 1 → (w3.setCell ⟨w.heap.size + 1 + 1, 1, none⟩ (.slice (some ⟨bH, 0, none⟩) s.heads.length s.heads.length)).heap[i]? = w3.heap[i]? := fun i hi => Below.heap_setCell w3 ⟨w.heap.size + 1 + 1, 1, none⟩ _ i hi
  have hR4 := hidS ((ho _ (by omega)).trans hR3.out)
  have HS4 := hidS ((ho bS (by omega)).trans HS3.out)
  have HH4 := hidS ((ho bH (by omega)).trans HH3.out)
  have hL4 := hidS (below_at (k := 1) (b := w.heap.size + 1 + 1) (v := .slice (some ⟨bH, 0, none⟩) s.heads.length s.heads.length) hL3.out (by omega))
  clear hO3 hR3 HS3 HH3 hL3 ho
  go_upto_region 4 with fail
  generalize w3.setCell ⟨w.heap.size + 1 + 1, 1, none⟩ (.slice (some ⟨bH, 0, none⟩) s.heads.length s.heads.length) = w4 at hO4 hR4 HS4 HH4 hL4 ⊢
  clear o0 o1 o2
  have o0 := blk_cell hO4.out 0
  have o1 := blk_cell hO4.out 1
  have r0 := blk_cell hR4.out 0
  have r1 := blk_cell hR4.out 1
  have fr := blk_free hR4.out
  simp at o0 o1 r0 r1
  have ho : Hid (∀ i, i ≠ w.heap.size + 1 → ((w4.setCell ⟨w.heap.size + 1, 0, none⟩ (.slice (some ⟨bS, 0, none⟩) s.slots.length s.slots.length)).setCell ⟨w.heap.size + 1, 1, none⟩ (.slice (some ⟨bH, 0, none⟩) s.heads.length s.heads.length)).heap[i]? = w4.heap[i]?) := hidS (fun i hi => (Below.heap_setCell _ ⟨w.heap.size + 1, 1, none⟩ _ i hi).trans (Below.heap_setCell w4 ⟨w.heap.size + 1, 0, none⟩ _ i hi))
  have HS5 := hidS ((ho.out bS (by omega)).trans HS4.out)
  have HH5 := hidS ((ho.out bH (by omega)).trans HH4.out)
  have hL5 := hidS (below_at (k := 1) (b := w.heap.size + 1) (v := .slice (some ⟨bH, 0, none⟩) s.heads.length s.heads.length) (below_at (k := 0) (b := w.heap.size + 1) (v := .slice (some ⟨bS, 0, none⟩) s.slots.length s.slots.length) hL4.out (by omega)) (by omega))
  have lt5 := hidS (blk_lt HS5.out)
  have lt6 := hidS (blk_lt HH5.out)
  clear HS4 HH4 hL4 hO4 hR4
  have ne : Hid (bS ≠ bH) := by show bS ≠ bH; omega
  have gS : Hid (w.heap.size ≤ bS) := by show w.heap.size ≤ bS; omega
  have gH : Hid (w.heap.size ≤ bH) := by show w.heap.size ≤ bH; omega
  go_wp2_with fail
  refine bodyPost_ret (v := .agg #[.slice (some ⟨bS, 0, none⟩) s.slots.length s.slots.length, .slice (some ⟨bH, 0, none⟩) s.heads.length s.heads.length]) (by simp [results, Try.results9, go_sem, *]) rfl ⟨_, _, rfl, ⟨own_new HS5.out gS.out lt5.out, own_new HH5.out gH.out lt6.out, ?_⟩, hL5.out⟩
  rintro b o c p e1 e2 _ _
  injection e1 with e1; injection e1 with e1
  injection e2 with e2; injection e2 with e2
  subst e1 e2
  exact ne.out
end Go.Proofs.Ytjhkaideckgffaa
