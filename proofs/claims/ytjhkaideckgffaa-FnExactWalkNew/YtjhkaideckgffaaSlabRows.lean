/- Proved here: nothing of a program: a copied slab, laid open; two rows are a slab of one's own. -/
import Derived.Test.YtjhkaideckgffaaSlabOwn
import Derived.Test.YtjhkaideckgffaaSlabRefs
namespace Go.Proofs.Ytjhkaideckgffaa
open Go.ChangeShapes Go.WideShapes Go.ChangeAt Go.RowKit
set_option linter.unusedVariables false
set_option linter.unusedSimpArgs false
set_option maxRecDepth 100000

/-- a copied slab, laid open -/
theorem SlabAns.rows {s : Slb} {w w' : World} {e : Ending} (h : SlabAns s w e w') (n1 : 1 ≤ s.slots.length) (n3 : 1 ≤ s.heads.length) :
    ∃ b2 o2 cS2 b3 o3 cH2, e = .returned (.agg #[.slice (some ⟨b2, o2, none⟩) s.slots.length cS2, .slice (some ⟨b3, o3, none⟩) s.heads.length cH2]) ∧ w.heap.size ≤ b2 ∧ w.heap.size ≤ b3 ∧ b2 ≠ b3 ∧ RowB b2 o2 (flat s.slots) w' ∧ RowB b3 o3 s.heads w' ∧ Below w.heap.size w w' := by
  obtain ⟨aS, cS, aH, cH, rfl, hO, hb⟩ := h
  obtain ⟨b2, o2, rfl, p1, p2, p3⟩ : ∃ b o, aS = some ⟨b, o, none⟩ ∧ w.heap.size ≤ b ∧ b < w'.heap.size ∧ RowB b o (flat s.slots) w' := by
    rcases hO.slots with e | h
    · have := flat_len s.slots; rw [e] at this; simp at this; omega
    · exact h
  obtain ⟨b3, o3, rfl, q1, q2, q3⟩ : ∃ b o, aH = some ⟨b, o, none⟩ ∧ w.heap.size ≤ b ∧ b < w'.heap.size ∧ RowB b o s.heads w' := by
    rcases hO.heads with e | h
    · rw [e] at n3; simp at n3
    · exact h
  exact ⟨b2, o2, cS, b3, o3, cH, rfl, p1, q1, hO.two _ _ _ _ rfl rfl (fun e => by rw [e] at n1; simp at n1) (fun e => by rw [e] at n3; simp at n3), p3, q3, hb⟩
/-- two rows are a slab of one's own -/
theorem rows_own {lo b2 o2 b3 o3 : Nat} {t : Slb} {W : World} (h1 : lo ≤ b2) (h2 : lo ≤ b3) (hne : b2 ≠ b3) (p : RowB b2 o2 (flat t.slots) W) (q : RowB b3 o3 t.heads W) : SlabO lo W.heap.size (some ⟨b2, o2, none⟩) (some ⟨b3, o3, none⟩) t W := by
  refine ⟨.inr ⟨b2, o2, rfl, h1, p.lt, p⟩, .inr ⟨b3, o3, rfl, h2, q.lt, q⟩, ?_⟩
  intro b o c p e1 e2 _ _
  injection e1 with e1; injection e1 with e1
  injection e2 with e2; injection e2 with e2
  omega
theorem SlabO.low {lo lo' hi : Nat} {aS aH : Option Addr} {s : Slb} {W : World} (h : SlabO lo hi aS aH s W) (hl : lo' ≤ lo) : SlabO lo' hi aS aH s W := by
  refine ⟨?_, ?_, h.two⟩
  · rcases h.slots with e | ⟨b, o, e, q1, q2, q3⟩
    · exact .inl e
    · exact .inr ⟨b, o, e, by omega, q2, q3⟩
  · rcases h.heads with e | ⟨b, o, e, q1, q2, q3⟩
    · exact .inl e
    · exact .inr ⟨b, o, e, by omega, q2, q3⟩
theorem SlabO.other {lo g k : Nat} {aS aH : Option Addr} {s : Slb} {W : World} {v : Value} (h : SlabO lo W.heap.size aS aH s W) (hg : g < lo) : SlabO lo (W.setCell ⟨g, k, none⟩ v).heap.size aS aH s (W.setCell ⟨g, k, none⟩ v) := by
  have e : (W.setCell ⟨g, k, none⟩ v).heap.size = W.heap.size := by simp [World.setCell]
  rw [e]
  refine ⟨?_, ?_, h.two⟩
  · rcases h.slots with e | ⟨b, o, e, q1, q2, q3⟩
    · exact .inl e
    · exact .inr ⟨b, o, e, q1, q2, q3.other (by omega)⟩
  · rcases h.heads with e | ⟨b, o, e, q1, q2, q3⟩
    · exact .inl e
    · exact .inr ⟨b, o, e, q1, q2, q3.other (by omega)⟩
end Go.Proofs.Ytjhkaideckgffaa
