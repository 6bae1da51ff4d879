/- Proved here: nothing of a program: rules laid out as numbers, 7 each. -/
import Derived.Test.YtpcflfhblomcoaaRowInt
import Derived.Test.YtpcflfhblomcoaaRuleMath
namespace Go.Proofs.Ytpcflfhblomcoaa
open Go.ChangeShapes Go.WideShapes Go.ChangeAt Go.RowKit
set_option linter.unusedVariables false

def flatRule : List Rl → List Int
  | [] => []
  | s :: ss => s.kind :: s.proto :: s.net :: s.bits :: s.goal :: s.low :: s.high :: flatRule ss
theorem flatRule_len : ∀ ss : List Rl, (flatRule ss).length = 7 * ss.length
  | [] => rfl
  | s :: ss => by simp only [flatRule, List.length_cons, flatRule_len ss]; omega
theorem flatRule_get : ∀ (ss : List Rl) (i : Nat), (flatRule ss).getD (7 * i) 0 = (ss.getD i zeroRl).kind ∧ (flatRule ss).getD (7 * i + 1) 0 = (ss.getD i zeroRl).proto ∧ (flatRule ss).getD (7 * i + 2) 0 = (ss.getD i zeroRl).net ∧ (flatRule ss).getD (7 * i + 3) 0 = (ss.getD i zeroRl).bits ∧ (flatRule ss).getD (7 * i + 4) 0 = (ss.getD i zeroRl).goal ∧ (flatRule ss).getD (7 * i + 5) 0 = (ss.getD i zeroRl).low ∧ (flatRule ss).getD (7 * i + 6) 0 = (ss.getD i zeroRl).high
  | [], i => by simp [flatRule, zeroRl]
  | s :: ss, 0 => by simp [flatRule]
  | s :: ss, i + 1 => by
    have := flatRule_get ss i
    have e0 : 7 * (i + 1) = 7 * i + 7 := by omega
    simp only [flatRule, e0, List.getD_cons_succ, show ∀ x : Nat, 7 * i + 7 + x = 7 * i + x + 7 by omega]
    simpa [List.getD_cons_succ] using this
/-- one read out of a row -/
theorem RowZ.rule {a : Option Addr} {ss : List Rl} {W : World} (h : RowZ a (flatRule ss) W) {i : Nat} (hi : i < ss.length) : ∃ b o, a = some ⟨b, o, none⟩ ∧ b < W.heap.size ∧
    W.cell? ⟨b, o + i * 7, none⟩ = some (.int .i64 (ss.getD i zeroRl).kind) ∧ W.cell? ⟨b, o + i * 7 + 1, none⟩ = some (.int .i64 (ss.getD i zeroRl).proto) ∧ W.cell? ⟨b, o + i * 7 + 2, none⟩ = some (.int .i64 (ss.getD i zeroRl).net) ∧ W.cell? ⟨b, o + i * 7 + 3, none⟩ = some (.int .i64 (ss.getD i zeroRl).bits) ∧ W.cell? ⟨b, o + i * 7 + 4, none⟩ = some (.int .i64 (ss.getD i zeroRl).goal) ∧ W.cell? ⟨b, o + i * 7 + 5, none⟩ = some (.int .i64 (ss.getD i zeroRl).low) ∧ W.cell? ⟨b, o + i * 7 + 6, none⟩ = some (.int .i64 (ss.getD i zeroRl).high) := by
  have hl := flatRule_len ss
  obtain ⟨g0, g1, g2, g3, g4, g5, g6⟩ := flatRule_get ss i
  obtain ⟨b, o, e, hb, c0⟩ := h (7 * i) (by omega)
  obtain ⟨b1, o1, e1, _, c1⟩ := h (7 * i + 1) (by omega)
  obtain ⟨b2, o2, e2, _, c2⟩ := h (7 * i + 2) (by omega)
  obtain ⟨b3, o3, e3, _, c3⟩ := h (7 * i + 3) (by omega)
  obtain ⟨b4, o4, e4, _, c4⟩ := h (7 * i + 4) (by omega)
  obtain ⟨b5, o5, e5, _, c5⟩ := h (7 * i + 5) (by omega)
  obtain ⟨b6, o6, e6, _, c6⟩ := h (7 * i + 6) (by omega)
  rw [e] at e1 e2 e3 e4 e5 e6
  injection e1 with e1; injection e1 with q1 r1
  injection e2 with e2; injection e2 with q2 r2
  injection e3 with e3; injection e3 with q3 r3
  injection e4 with e4; injection e4 with q4 r4
  injection e5 with e5; injection e5 with q5 r5
  injection e6 with e6; injection e6 with q6 r6
  subst q1 r1 q2 r2 q3 r3 q4 r4 q5 r5 q6 r6
  rw [g0] at c0
  rw [g1] at c1
  rw [g2] at c2
  rw [g3] at c3
  rw [g4] at c4
  rw [g5] at c5
  rw [g6] at c6
  have q : o + i * 7 = o + 7 * i := by omega
  refine ⟨b, o, e, hb, ?_⟩
  rw [q]
  exact ⟨c0, c1, c2, c3, c4, c5, c6⟩
theorem made_rules (n : Nat) : madeCells #[.int .i64 0, .int .i64 0, .int .i64 0, .int .i64 0, .int .i64 0, .int .i64 0, .int .i64 0] n = intCells (List.replicate n 0) := by
  apply Array.ext
  · simp [size_madeCells, intCells]
  · intro i h1 h2
    have h4 : i % 7 < 7 := Nat.mod_lt _ (by omega)
    simp only [madeCells, intCells, Array.getElem_map, Array.getElem_range, List.getElem_toArray, List.getElem_map, List.getElem_replicate]
    rcases (by omega : i % 7 = 0 ∨ i % 7 = 1 ∨ i % 7 = 2 ∨ i % 7 = 3 ∨ i % 7 = 4 ∨ i % 7 = 5 ∨ i % 7 = 6) with e | e | e | e | e | e | e <;> simp [e]
theorem flatRule_part (ss : List Rl) (k : Nat) (h : k < ss.length) : ((((((((partZ (flatRule ss) (7 * k)).set (7 * k) (ss.getD k zeroRl).kind).set (7 * k + 1) (ss.getD k zeroRl).proto).set (7 * k + 2) (ss.getD k zeroRl).net).set (7 * k + 3) (ss.getD k zeroRl).bits).set (7 * k + 4) (ss.getD k zeroRl).goal).set (7 * k + 5) (ss.getD k zeroRl).low).set (7 * k + 6) (ss.getD k zeroRl).high) = partZ (flatRule ss) (7 * (k + 1)) := by
  have hl := flatRule_len ss
  obtain ⟨g0, g1, g2, g3, g4, g5, g6⟩ := flatRule_get ss k
  rw [← g0, ← g1, ← g2, ← g3, ← g4, ← g5, ← g6, partZ_step _ _ (by omega), partZ_step _ _ (by omega), partZ_step _ _ (by omega), partZ_step _ _ (by omega), partZ_step _ _ (by omega), partZ_step _ _ (by omega), partZ_step _ _ (by omega)]
  congr 1
end Go.Proofs.Ytpcflfhblomcoaa
