/- Proved here: nothing of a program: kinds of values that are slabs of their own memory, and walkers' answers, told in a region. -/
import Derived.Test.YtjhkaideckgffaaKinds
import Derived.Test.YtjhkaideckgffaaWalkDefs
import Derived.Test.YtjhkaideckgffaaSlabRows
namespace Go.Proofs.Ytjhkaideckgffaa
open Go.ChangeShapes Go.WideShapes Go.ChangeAt Go.RowKit
set_option linter.unusedVariables false
set_option linter.unusedSimpArgs false
set_option maxRecDepth 100000

/-- a slab in memory of its own -/
def rowsK (lo : Nat) (s : Slb) : Kp := fun v W => ∃ (b2 o2 c2 b3 o3 c3 : Nat), v = .agg #[.slice (some ⟨b2, o2, none⟩) s.slots.length c2, .slice (some ⟨b3, o3, none⟩) s.heads.length c3] ∧ lo ≤ b2 ∧ lo ≤ b3 ∧ b2 ≠ b3 ∧ RowB b2 o2 (flat s.slots) W ∧ RowB b3 o3 s.heads W
theorem rowsK_last (lo : Nat) (s : Slb) : LastsB (rowsK lo s) := fun v W W' h hb => by
  obtain ⟨b2, o2, c2, b3, o3, c3, e, h1, h2, h3, p, q⟩ := h
  exact ⟨b2, o2, c2, b3, o3, c3, e, h1, h2, h3, p.later hb, q.later hb⟩
/-- an answer with a walker -/
def wansK (lo : Nat) (s : Slb) (k : Wlk) (code : Int) : Kp := fun v W => ∃ (b2 o2 c2 b3 o3 c3 : Nat), v = .agg #[.slice (some ⟨b2, o2, none⟩) s.slots.length c2, .slice (some ⟨b3, o3, none⟩) s.heads.length c3, .int .i64 k.key, .int .i64 k.cur, .int .i64 k.stage, .int .i64 k.state, .int .i64 k.slot, .int .i64 k.gen, .int .i64 k.steps, .int .i64 code] ∧ lo ≤ b2 ∧ lo ≤ b3 ∧ b2 ≠ b3 ∧ RowB b2 o2 (flat s.slots) W ∧ RowB b3 o3 s.heads W
theorem wansK_last (lo : Nat) (s : Slb) (k : Wlk) (code : Int) : LastsB (wansK lo s k code) := fun v W W' h hb => by
  obtain ⟨b2, o2, c2, b3, o3, c3, e, h1, h2, h3, p, q⟩ := h
  exact ⟨b2, o2, c2, b3, o3, c3, e, h1, h2, h3, p.later hb, q.later hb⟩
theorem newW_len {s : Slb} {c : Int} (h1 : s.slots.length ≤ 1048576) (h2 : s.heads.length ≤ 1048576) : (newWS s c).slots.length ≤ 1048576 ∧ (newWS s c).heads.length ≤ 1048576 := by
  unfold newWS
  split
  · exact ⟨h1, h2⟩
  · simp
theorem stepW_len {s : Slb} {k : Wlk} (h1 : s.slots.length ≤ 1048576) (h2 : s.heads.length ≤ 1048576) : (stepWS s k).slots.length ≤ 1048576 ∧ (stepWS s k).heads.length ≤ 1048576 := by
  unfold stepWS
  split
  · obtain ⟨_, _, e1, e2⟩ := step_key s k
    rw [e1, e2]; exact ⟨h2 |> fun _ => by omega, h2⟩
  · simp
theorem endW_len {s : Slb} {k : Wlk} {n : Int} (h1 : s.slots.length ≤ 1048576) (h2 : s.heads.length ≤ 1048576) : (endWS s k n).slots.length ≤ 1048576 ∧ (endWS s k n).heads.length ≤ 1048576 := by
  unfold endWS
  split
  · obtain ⟨e1, e2⟩ := run_len n.toNat s k
    rw [e1, e2]; exact ⟨h1, h2⟩
  · simp
end Go.Proofs.Ytjhkaideckgffaa
