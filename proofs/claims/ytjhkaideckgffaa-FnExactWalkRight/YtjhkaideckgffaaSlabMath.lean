/- Proved here: nothing of a program: slots laid out as numbers, four each. -/
import Derived.Test.YtjhkaideckgffaaRowInt
namespace Go.Proofs.Ytjhkaideckgffaa
open Go.ChangeShapes Go.WideShapes Go.ChangeAt Go.RowKit
set_option linter.unusedVariables false

/-- a slot -/
structure Slt where
  key : Int
  gen : Int
  refs : Int
  next : Int
def zeroSlt : Slt := ⟨0, 0, 0, 0⟩
/-- a slab -/
structure Slb where
  slots : List Slt
  heads : List Int
def flat : List Slt → List Int
  | [] => []
  | s :: ss => s.key :: s.gen :: s.refs :: s.next :: flat ss
theorem flat_len : ∀ ss : List Slt, (flat ss).length = 4 * ss.length
  | [] => rfl
  | s :: ss => by simp only [flat, List.length_cons, flat_len ss]; omega
theorem flat_get : ∀ (ss : List Slt) (i : Nat), (flat ss).getD (4 * i) 0 = (ss.getD i zeroSlt).key ∧ (flat ss).getD (4 * i + 1) 0 = (ss.getD i zeroSlt).gen ∧ (flat ss).getD (4 * i + 2) 0 = (ss.getD i zeroSlt).refs ∧ (flat ss).getD (4 * i + 3) 0 = (ss.getD i zeroSlt).next
  | [], i => by simp [flat, zeroSlt]
  | s :: ss, 0 => by simp [flat]
  | s :: ss, i + 1 => by
    have := flat_get ss i
    have e0 : 4 * (i + 1) = 4 * i + 4 := by omega
    simp only [flat, e0, List.getD_cons_succ, show ∀ x : Nat, 4 * i + 4 + x = 4 * i + x + 4 by omega]
    simpa [List.getD_cons_succ] using this
theorem flat_set : ∀ (ss : List Slt) (i : Nat) (s : Slt), i < ss.length → ((((flat ss).set (4 * i) s.key).set (4 * i + 1) s.gen).set (4 * i + 2) s.refs).set (4 * i + 3) s.next = flat (ss.set i s)
  | [], i, s, h => by simp at h
  | x :: ss, 0, s, h => by simp [flat]
  | x :: ss, i + 1, s, h => by
    have := flat_set ss i s (by simpa using h)
    have e0 : 4 * (i + 1) = 4 * i + 4 := by omega
    simp only [flat, e0, List.set_cons_succ, show 4 * i + 4 + 1 = 4 * i + 1 + 4 by omega, show 4 * i + 4 + 2 = 4 * i + 2 + 4 by omega, show 4 * i + 4 + 3 = 4 * i + 3 + 4 by omega]
    rw [this]
theorem flat_inj : ∀ {a b : List Slt}, flat a = flat b → a = b
  | [], [], _ => rfl
  | [], _ :: _, h => by simp [flat] at h
  | _ :: _, [], h => by simp [flat] at h
  | x :: a, y :: b, h => by
    simp only [flat, List.cons.injEq] at h
    obtain ⟨h1, h2, h3, h4, h5⟩ := h
    rw [flat_inj h5]
    cases x; cases y; simp_all
/-- a slot read out of a row -/
theorem RowZ.slot {a : Option Addr} {ss : List Slt} {W : World} (h : RowZ a (flat ss) W) {i : Nat} (hi : i < ss.length) : ∃ b o, a = some ⟨b, o, none⟩ ∧ b < W.heap.size ∧
    W.cell? ⟨b, o + i * 4, none⟩ = some (.int .i64 (ss.getD i zeroSlt).key) ∧ W.cell? ⟨b, o + i * 4 + 1, none⟩ = some (.int .i64 (ss.getD i zeroSlt).gen) ∧ W.cell? ⟨b, o + i * 4 + 2, none⟩ = some (.int .i64 (ss.getD i zeroSlt).refs) ∧ W.cell? ⟨b, o + i * 4 + 3, none⟩ = some (.int .i64 (ss.getD i zeroSlt).next) := by
  have hl := flat_len ss
  obtain ⟨g0, g1, g2, g3⟩ := flat_get ss i
  obtain ⟨b, o, e, hb, c0⟩ := h (4 * i) (by omega)
  obtain ⟨b1, o1, e1, _, c1⟩ := h (4 * i + 1) (by omega)
  obtain ⟨b2, o2, e2, _, c2⟩ := h (4 * i + 2) (by omega)
  obtain ⟨b3, o3, e3, _, c3⟩ := h (4 * i + 3) (by omega)
  rw [e] at e1 e2 e3
  injection e1 with e1; injection e1 with q1 r1
  injection e2 with e2; injection e2 with q2 r2
  injection e3 with e3; injection e3 with q3 r3
  subst q1 r1 q2 r2 q3 r3
  rw [g0] at c0
  rw [g1] at c1
  rw [g2] at c2
  rw [g3] at c3
  have q : o + i * 4 = o + 4 * i := by omega
  refine ⟨b, o, e, hb, ?_⟩
  rw [q]
  exact ⟨c0, c1, c2, c3⟩
theorem made_slots (n : Nat) : madeCells #[.int .i64 0, .int .i64 0, .int .i64 0, .int .i64 0] n = intCells (List.replicate n 0) := by
  apply Array.ext
  · simp [size_madeCells, intCells]
  · intro i h1 h2
    have h4 : i % 4 < 4 := Nat.mod_lt _ (by omega)
    simp only [madeCells, intCells, Array.getElem_map, Array.getElem_range, List.getElem_toArray, List.getElem_map, List.getElem_replicate]
    rcases (by omega : i % 4 = 0 ∨ i % 4 = 1 ∨ i % 4 = 2 ∨ i % 4 = 3) with e | e | e | e <;> simp [e]
theorem flat_part (ss : List Slt) (k : Nat) (h : k < ss.length) : ((((partZ (flat ss) (4 * k)).set (4 * k) (ss.getD k zeroSlt).key).set (4 * k + 1) (ss.getD k zeroSlt).gen).set (4 * k + 2) (ss.getD k zeroSlt).refs).set (4 * k + 3) (ss.getD k zeroSlt).next = partZ (flat ss) (4 * (k + 1)) := by
  have hl := flat_len ss
  obtain ⟨g0, g1, g2, g3⟩ := flat_get ss k
  rw [← g0, ← g1, ← g2, ← g3, partZ_step _ _ (by omega), partZ_step _ _ (by omega), partZ_step _ _ (by omega), partZ_step _ _ (by omega)]
  congr 1
theorem flat_markd (zs : List Int) (k0 : Int) (j : Nat) (h : 4 * j + 3 < zs.length) : ((((markd zs k0 (4 * j)).set (4 * j) (k0 + 4 * j)).set (4 * j + 1) (k0 + 4 * j + 1)).set (4 * j + 2) (k0 + 4 * j + 2)).set (4 * j + 3) (k0 + 4 * j + 3) = markd zs k0 (4 * (j + 1)) := by
  have e0 : k0 + 4 * (j : Int) = k0 + ((4 * j : Nat) : Int) := by omega
  have e1 : k0 + 4 * (j : Int) + 1 = k0 + ((4 * j + 1 : Nat) : Int) := by omega
  have e2 : k0 + 4 * (j : Int) + 2 = k0 + ((4 * j + 2 : Nat) : Int) := by omega
  have e3 : k0 + 4 * (j : Int) + 3 = k0 + ((4 * j + 3 : Nat) : Int) := by omega
  rw [e1, e2, e3, e0, markd_step _ _ _ (by omega), markd_step _ _ _ (by omega), markd_step _ _ _ (by omega), markd_step _ _ _ (by omega)]
  congr 1
end Go.Proofs.Ytjhkaideckgffaa
