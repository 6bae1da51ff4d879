/- Proved here: nothing of a program: rows of slots of one's own. -/
import Derived.Test.YtjhkaideckgffaaSlabSpec2
import Derived.Deep.OwnRows
import Derived.Maps.AppendAt
namespace Go.Proofs.Ytjhkaideckgffaa
open Go.ChangeShapes Go.WideShapes Go.ChangeAt Go.RowKit
set_option linter.unusedVariables false
set_option linter.unusedSimpArgs false
set_option maxRecDepth 100000

theorem flat_app : ∀ a b : List Slt, flat (a ++ b) = flat a ++ flat b
  | [], b => rfl
  | x :: a, b => by simp [flat, flat_app a b]
theorem infoSlot : (Try.prog.info? 71).map (fun i => (i.zero, i.size, i.bytes)) = some (some (.agg #[.int .i64 0, .int .i64 0, .int .i64 0, .int .i64 0]), 4, 32) := by kernel_rfl
theorem cell_four_new (w : World) (a b c d : Value) (t : TypeId) : ∀ j u, [a, b, c, d][j]? = some u → (w.alloc (.cells #[a, b, c, d] t)).cell? ((⟨w.heap.size, 0, none⟩ : Addr).add j) = some u := by
  intro j u hj
  rw [Addr.add_lit, Nat.zero_add]
  have := blk_cell (heap_newG w (.cells #[a, b, c, d] t)) j
  rw [this]
  simpa using hj
/-- a row of slots of one's own -/
theorem own_slots {W : World} {B lo : Nat} {t : TypeId} {a : Option Addr} {n cap : Nat} {zs : List Int} (h : W.ownsRow B t 4 (.slice a n cap) n (zs.map (.int .i64))) (hB : lo ≤ B) : OwnR lo W.heap.size a zs W := by
  obtain ⟨hl, h⟩ := h
  simp at hl
  rcases h with ⟨e, rfl⟩ | ⟨g, cap', cur, e, hg, hh, hn, _, hs, ht⟩
  · left; exact List.length_eq_zero_iff.1 (by omega)
  · injection e with e _ _
    subst e
    refine .inr ⟨g, 0, rfl, by omega, blk_lt hh, cur, t, hh, fun j hj => ?_⟩
    rw [Nat.zero_add]
    have h1 : (zs.map (Value.int .i64))[j]? = some (.int .i64 (zs.getD j 0)) := by simp [hj]
    rw [← ht, List.getElem?_take, if_pos (by omega)] at h1
    simpa using h1
theorem own_form4 {W : World} {B : Nat} {t : TypeId} {v : Value} {n : Nat} {xs : List Value} (h : W.ownsRow B t 4 v n xs) : ∃ a cap, v = .slice a n cap := by
  rcases h.2 with ⟨rfl, rfl⟩ | ⟨g, cap, cur, rfl, _⟩
  · exact ⟨none, 0, rfl⟩
  · exact ⟨_, cap, rfl⟩
theorem own_set {W : World} {B : Nat} {t : TypeId} {z : Nat} {v : Value} {n : Nat} {xs : List Value} (h : W.ownsRow B t z v n xs) (g o : Nat) (x : Value) (hg : g < B) : (W.setCell ⟨g, o, none⟩ x).ownsRow B t z v n xs := by
  refine ⟨h.1, ?_⟩
  rcases h.2 with h | ⟨q, cap, cur, e, hq, hh, r⟩
  · exact .inl h
  · exact .inr ⟨q, cap, cur, e, hq, (Below.heap_setCell W ⟨g, o, none⟩ x q (by simp; omega)).trans hh, r⟩
theorem own_keep {W W' : World} {B : Nat} {t : TypeId} {z : Nat} {v : Value} {n : Nat} {xs : List Value} {r : Option Nat} (h : W.ownsRow B t z v n xs) (hg : W.grownBy W' r) (hr : ∀ q, v.ownBlock = some q → r ≠ some q) : W'.ownsRow B t z v n xs := by
  refine ⟨h.1, ?_⟩
  rcases h.2 with h | ⟨q, cap, cur, e, hq, hh, k⟩
  · exact .inl h
  · refine .inr ⟨q, cap, cur, e, hq, (hg.block q (blk_lt hh) (fun e2 => hr q (by rw [e]; rfl) e2.symm)).trans hh, k⟩
/-- a slab handed back, with rows of its own -/
def SlabAns (s : Slb) (w : World) (e : Ending) (w' : World) : Prop := ∃ aS cS aH cH, e = .returned (.agg #[.slice aS s.slots.length cS, .slice aH s.heads.length cH]) ∧ SlabO w.heap.size w'.heap.size aS aH s w' ∧ Below w.heap.size w w'
end Go.Proofs.Ytjhkaideckgffaa
