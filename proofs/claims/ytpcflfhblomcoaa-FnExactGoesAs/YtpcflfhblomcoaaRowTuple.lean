/- Proved here: nothing of a program: tuples laid out as numbers, 6 each. -/
import Derived.Test.YtpcflfhblomcoaaRowInt
import Derived.Test.YtpcflfhblomcoaaAll4
namespace Go.Proofs.Ytpcflfhblomcoaa
open Go.ChangeShapes Go.WideShapes Go.ChangeAt Go.RowKit
set_option linter.unusedVariables false

def flatTuple : List Tp → List Int
  | [] => []
  | s :: ss => s.proto :: s.src :: s.sport :: s.dst :: s.dport :: s.kind :: flatTuple ss
theorem flatTuple_len : ∀ ss : List Tp, (flatTuple ss).length = 6 * ss.length
  | [] => rfl
  | s :: ss => by simp only [flatTuple, List.length_cons, flatTuple_len ss]; omega
theorem flatTuple_get : ∀ (ss : List Tp) (i : Nat), (flatTuple ss).getD (6 * i) 0 = (ss.getD i zeroTp).proto ∧ (flatTuple ss).getD (6 * i + 1) 0 = (ss.getD i zeroTp).src ∧ (flatTuple ss).getD (6 * i + 2) 0 = (ss.getD i zeroTp).sport ∧ (flatTuple ss).getD (6 * i + 3) 0 = (ss.getD i zeroTp).dst ∧ (flatTuple ss).getD (6 * i + 4) 0 = (ss.getD i zeroTp).dport ∧ (flatTuple ss).getD (6 * i + 5) 0 = (ss.getD i zeroTp).kind
  | [], i => by simp [flatTuple, zeroTp]
  | s :: ss, 0 => by simp [flatTuple]
  | s :: ss, i + 1 => by
    have := flatTuple_get ss i
    have e0 : 6 * (i + 1) = 6 * i + 6 := by omega
    simp only [flatTuple, e0, List.getD_cons_succ, show ∀ x : Nat, 6 * i + 6 + x = 6 * i + x + 6 by omega]
    simpa [List.getD_cons_succ] using this
/-- one read out of a row -/
theorem RowZ.tuple {a : Option Addr} {ss : List Tp} {W : World} (h : RowZ a (flatTuple ss) W) {i : Nat} (hi : i < ss.length) : ∃ b o, a = some ⟨b, o, none⟩ ∧ b < W.heap.size ∧
    W.cell? ⟨b, o + i * 6, none⟩ = some (.int .i64 (ss.getD i zeroTp).proto) ∧ W.cell? ⟨b, o + i * 6 + 1, none⟩ = some (.int .i64 (ss.getD i zeroTp).src) ∧ W.cell? ⟨b, o + i * 6 + 2, none⟩ = some (.int .i64 (ss.getD i zeroTp).sport) ∧ W.cell? ⟨b, o + i * 6 + 3, none⟩ = some (.int .i64 (ss.getD i zeroTp).dst) ∧ W.cell? ⟨b, o + i * 6 + 4, none⟩ = some (.int .i64 (ss.getD i zeroTp).dport) ∧ W.cell? ⟨b, o + i * 6 + 5, none⟩ = some (.int .i64 (ss.getD i zeroTp).kind) := by
  have hl := flatTuple_len ss
  obtain ⟨g0, g1, g2, g3, g4, g5⟩ := flatTuple_get ss i
  obtain ⟨b, o, e, hb, c0⟩ := h (6 * i) (by omega)
  obtain ⟨b1, o1, e1, _, c1⟩ := h (6 * i + 1) (by omega)
  obtain ⟨b2, o2, e2, _, c2⟩ := h (6 * i + 2) (by omega)
  obtain ⟨b3, o3, e3, _, c3⟩ := h (6 * i + 3) (by omega)
  obtain ⟨b4, o4, e4, _, c4⟩ := h (6 * i + 4) (by omega)
  obtain ⟨b5, o5, e5, _, c5⟩ := h (6 * i + 5) (by omega)
  rw [e] at e1 e2 e3 e4 e5
  injection e1 with e1; injection e1 with q1 r1
  injection e2 with e2; injection e2 with q2 r2
  injection e3 with e3; injection e3 with q3 r3
  injection e4 with e4; injection e4 with q4 r4
  injection e5 with e5; injection e5 with q5 r5
  subst q1 r1 q2 r2 q3 r3 q4 r4 q5 r5
  rw [g0] at c0
  rw [g1] at c1
  rw [g2] at c2
  rw [g3] at c3
  rw [g4] at c4
  rw [g5] at c5
  have q : o + i * 6 = o + 6 * i := by omega
  refine ⟨b, o, e, hb, ?_⟩
  rw [q]
  exact ⟨c0, c1, c2, c3, c4, c5⟩
theorem made_tuples (n : Nat) : madeCells #[.int .i64 0, .int .i64 0, .int .i64 0, .int .i64 0, .int .i64 0, .int .i64 0] n = intCells (List.replicate n 0) := by
  apply Array.ext
  · simp [size_madeCells, intCells]
  · intro i h1 h2
    have h4 : i % 6 < 6 := Nat.mod_lt _ (by omega)
    simp only [madeCells, intCells, Array.getElem_map, Array.getElem_range, List.getElem_toArray, List.getElem_map, List.getElem_replicate]
    rcases (by omega : i % 6 = 0 ∨ i % 6 = 1 ∨ i % 6 = 2 ∨ i % 6 = 3 ∨ i % 6 = 4 ∨ i % 6 = 5) with e | e | e | e | e | e <;> simp [e]
theorem flatTuple_part (ss : List Tp) (k : Nat) (h : k < ss.length) : (((((((partZ (flatTuple ss) (6 * k)).set (6 * k) (ss.getD k zeroTp).proto).set (6 * k + 1) (ss.getD k zeroTp).src).set (6 * k + 2) (ss.getD k zeroTp).sport).set (6 * k + 3) (ss.getD k zeroTp).dst).set (6 * k + 4) (ss.getD k zeroTp).dport).set (6 * k + 5) (ss.getD k zeroTp).kind) = partZ (flatTuple ss) (6 * (k + 1)) := by
  have hl := flatTuple_len ss
  obtain ⟨g0, g1, g2, g3, g4, g5⟩ := flatTuple_get ss k
  rw [← g0, ← g1, ← g2, ← g3, ← g4, ← g5, partZ_step _ _ (by omega), partZ_step _ _ (by omega), partZ_step _ _ (by omega), partZ_step _ _ (by omega), partZ_step _ _ (by omega), partZ_step _ _ (by omega)]
  congr 1
end Go.Proofs.Ytpcflfhblomcoaa
