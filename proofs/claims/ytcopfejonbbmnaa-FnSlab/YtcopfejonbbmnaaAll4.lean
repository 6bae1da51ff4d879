/- Proved here: nothing of a program: rows of numbers in memory, read and written. · Proved here: nothing of a program: slots laid out as numbers, four each. · Proved here: spec.l02Is answers whether a number lies between two, and leaves memory alone (no conditions). -/
import Derived.Test.YtcopfejonbbmnaaAll3
section
namespace Go.Proofs.Ytcopfejonbbmnaa
open Go.ChangeShapes Go.WideShapes Go.ChangeAt Go.RowKit
set_option linter.unusedVariables false

/-- numbers that can be read from a on -/
def RowZ (a : Option Addr) (zs : List Int) (W : World) : Prop := ∀ j, j < zs.length → ∃ b o, a = some ⟨b, o, none⟩ ∧ b < W.heap.size ∧ W.cell? ⟨b, o + j, none⟩ = some (.int .i64 (zs.getD j 0))
theorem RowZ.later {a : Option Addr} {zs : List Int} {W W' : World} (h : RowZ a zs W) (hb : Below W.heap.size W W') : RowZ a zs W' := fun j hj => by
  obtain ⟨b, o, e, hl, hc⟩ := h j hj
  exact ⟨b, o, e, Nat.lt_of_lt_of_le hl hb.size, (hb.cell (p := ⟨b, o + j, none⟩) hl).trans hc⟩
/-- a row's cells -/
def intCells (zs : List Int) : Array Value := (zs.map (Value.int .i64)).toArray
theorem intCells_size (zs : List Int) : (intCells zs).size = zs.length := by simp [intCells]
theorem intCells_get (zs : List Int) (j : Nat) (h : j < zs.length) : (intCells zs)[j]? = some (.int .i64 (zs.getD j 0)) := by
  simp [intCells, h]
theorem intCells_set (zs : List Int) (k : Nat) (z : Int) : (intCells zs).setIfInBounds k (.int .i64 z) = intCells (zs.set k z) := by
  simp [intCells, List.map_set]
/-- a row that may be written: it lies in one block, from place o on -/
def RowB (b o : Nat) (zs : List Int) (W : World) : Prop := ∃ cs t, W.heap[b]? = some (.cells cs t) ∧ ∀ j, j < zs.length → cs[o + j]? = some (.int .i64 (zs.getD j 0))
theorem RowB.read {b o : Nat} {zs : List Int} {W : World} (h : RowB b o zs W) : RowZ (some ⟨b, o, none⟩) zs W := fun j hj => by
  obtain ⟨cs, t, h1, h2⟩ := h
  exact ⟨b, o, rfl, blk_lt h1, (blk_cell h1 _).trans (h2 j hj)⟩
theorem RowB.lt {b o : Nat} {zs : List Int} {W : World} (h : RowB b o zs W) : b < W.heap.size := by
  obtain ⟨cs, t, h1, h2⟩ := h
  exact blk_lt h1
theorem rowB_new {b : Nat} {zs : List Int} {W : World} {t : TypeId} (h : W.heap[b]? = some (.cells (intCells zs) t)) : RowB b 0 zs W := ⟨_, _, h, fun j hj => by rw [Nat.zero_add]; exact intCells_get zs j hj⟩
theorem RowB.keep {b o : Nat} {zs : List Int} {W W' : World} (h : RowB b o zs W) (e : W'.heap[b]? = W.heap[b]?) : RowB b o zs W' := by
  obtain ⟨cs, t, h1, h2⟩ := h
  exact ⟨cs, t, e.trans h1, h2⟩
theorem RowB.later {b o : Nat} {zs : List Int} {W W' : World} (h : RowB b o zs W) (hb : Below W.heap.size W W') : RowB b o zs W' := h.keep (hb.block b h.lt)
theorem getD_set (zs : List Int) (k j : Nat) (z : Int) (hk : k < zs.length) : (zs.set k z).getD j 0 = if j = k then z else zs.getD j 0 := by
  by_cases e : j = k
  · subst e; simp [hk]
  · rw [if_neg e]; simp [List.getElem?_set_ne (Ne.symm e)]
theorem RowB.set {b o : Nat} {zs : List Int} {W : World} (h : RowB b o zs W) (k : Nat) (z : Int) (hk : k < zs.length) : RowB b o (zs.set k z) (W.setCell ⟨b, o + k, none⟩ (.int .i64 z)) := by
  obtain ⟨cs, t, h1, h2⟩ := h
  refine ⟨cs.setIfInBounds (o + k) (.int .i64 z), t, blk_set h1 (o + k) _, fun j hj => ?_⟩
  have hj' : j < zs.length := by simpa using hj
  rw [getD_set zs k j z hk]
  by_cases e : j = k
  · subst e
    have hlt : o + j < cs.size := (Array.getElem?_eq_some_iff.1 (h2 j hk)).1
    rw [if_pos rfl, Array.getElem?_setIfInBounds_self_of_lt hlt]
  · rw [if_neg e, Array.getElem?_setIfInBounds_ne (by omega)]
    exact h2 j hj'
/-- some made, the rest 0 -/
def partZ (zs : List Int) (k : Nat) : List Int := zs.take k ++ List.replicate (zs.length - k) 0
theorem partZ_len (zs : List Int) (k : Nat) (h : k ≤ zs.length) : (partZ zs k).length = zs.length := by simp [partZ]; omega
theorem partZ_all (zs : List Int) : partZ zs zs.length = zs := by simp [partZ]
theorem partZ_none (zs : List Int) : partZ zs 0 = List.replicate zs.length 0 := by simp [partZ]
theorem partZ_step (zs : List Int) (k : Nat) (h : k < zs.length) : (partZ zs k).set k (zs.getD k 0) = partZ zs (k + 1) := by
  apply List.ext_getElem
  · simp [partZ]; omega
  · intro i h1 h2
    simp only [partZ, List.getElem_set, List.getElem_append, List.length_take]
    by_cases e : k = i
    · subst e
      simp only [if_true]
      rw [dif_pos (by omega)]
      simp [h]
    · rw [if_neg e]
      by_cases hi : i < k
      · rw [dif_pos (by omega), dif_pos (by omega)]; simp
      · rw [dif_neg (by omega), dif_neg (by omega)]; simp
theorem made_ints (n : Nat) : madeCells #[.int .i64 0] n = intCells (List.replicate n 0) := by
  apply Array.ext
  · simp [size_madeCells, intCells]
  · intro i h1 h2
    simp [madeCells, intCells, Nat.mod_one]
/-- of all blocks that are there, this one alone may have turned -/
structure Tch (b : Nat) (w w' : World) : Prop where
  os : w'.os = w.os
  tape : w'.tape = w.tape
  output : w'.output = w.output
  size : w.heap.size ≤ w'.heap.size
  block : ∀ k, k < w.heap.size → k ≠ b → w'.heap[k]? = w.heap[k]?
theorem Tch.refl (b : Nat) (w : World) : Tch b w w := ⟨rfl, rfl, rfl, Nat.le_refl _, fun _ _ _ => rfl⟩
theorem Tch.set {b : Nat} {w w' : World} (h : Tch b w w') (o : Nat) (v : Value) : Tch b w (w'.setCell ⟨b, o, none⟩ v) :=
  ⟨h.os, h.tape, h.output, by simp only [World.setCell, Array.size_modify]; exact h.size, fun k hk hb => (Below.heap_setCell w' ⟨b, o, none⟩ v k hb).trans (h.block k hk hb)⟩
theorem Tch.drew {b : Nat} {w w' : World} (h : Tch b w w') : Tch b w w'.drew := ⟨h.os, h.tape, h.output, h.size, h.block⟩
theorem Tch.below {b B : Nat} {w w' : World} (h : Tch b w w') (hb : B ≤ b) (hB : B ≤ w.heap.size) : Below B w w' := ⟨h.os, h.tape, h.output, h.size, fun k hk => h.block k (by omega) (by omega)⟩
theorem RowB.touch {b c o : Nat} {zs : List Int} {W W' : World} (h : RowB b o zs W) (ht : Tch c W W') (hne : b ≠ c) : RowB b o zs W' := h.keep (ht.block b h.lt hne)
/-- so many numbers from k on -/
def marks (k : Int) (n : Nat) : List Int := (List.range n).map fun i : Nat => k + (i : Int)
theorem marks_len (k : Int) (n : Nat) : (marks k n).length = n := by simp [marks]
theorem marks_get (k : Int) (n j : Nat) (h : j < n) : (marks k n).getD j 0 = k + j := by simp [marks, h]
/-- the first j marked, the rest as they were -/
def markd (zs : List Int) (k : Int) (j : Nat) : List Int := (List.range zs.length).map fun i : Nat => if i < j then k + (i : Int) else zs.getD i 0
theorem markd_len (zs : List Int) (k : Int) (j : Nat) : (markd zs k j).length = zs.length := by simp [markd]
theorem markd_none (zs : List Int) (k : Int) : markd zs k 0 = zs := by
  apply List.ext_getElem
  · simp [markd]
  · intro i h1 h2
    simp [markd, h2]
theorem markd_all (zs : List Int) (k : Int) : markd zs k zs.length = marks k zs.length := by
  apply List.ext_getElem
  · simp [markd, marks]
  · intro i h1 h2
    have : i < zs.length := by simpa [markd] using h1
    simp [markd, marks, this]
theorem markd_step (zs : List Int) (k : Int) (j : Nat) (h : j < zs.length) : (markd zs k j).set j (k + j) = markd zs k (j + 1) := by
  apply List.ext_getElem
  · simp [markd]
  · intro i h1 h2
    have hi : i < zs.length := by simpa [markd] using h2
    simp only [List.getElem_set, markd, List.getElem_map, List.getElem_range]
    by_cases e : j = i
    · subst e; simp
    · rw [if_neg e]
      by_cases e3 : i < j
      · rw [if_pos e3, if_pos (by omega)]
      · rw [if_neg e3, if_neg (by omega)]
end Go.Proofs.Ytcopfejonbbmnaa
end

section
namespace Go.Proofs.Ytcopfejonbbmnaa
open Go.ChangeShapes Go.WideShapes Go.ChangeAt Go.RowKit
set_option linter.unusedVariables false

/-- a slot -/
structure Slt where
  key : Int
  gen : Int
  refs : Int
  next : Int
def zeroSlt : Slt := ⟨0, 0, 0, 0⟩
/-- a slab -/
structure Slb where
  slots : List Slt
  heads : List Int
def flat : List Slt → List Int
  | [] => []
  | s :: ss => s.key :: s.gen :: s.refs :: s.next :: flat ss
theorem flat_len : ∀ ss : List Slt, (flat ss).length = 4 * ss.length
  | [] => rfl
  | s :: ss => by simp only [flat, List.length_cons, flat_len ss]; omega
theorem flat_get : ∀ (ss : List Slt) (i : Nat), (flat ss).getD (4 * i) 0 = (ss.getD i zeroSlt).key ∧ (flat ss).getD (4 * i + 1) 0 = (ss.getD i zeroSlt).gen ∧ (flat ss).getD (4 * i + 2) 0 = (ss.getD i zeroSlt).refs ∧ (flat ss).getD (4 * i + 3) 0 = (ss.getD i zeroSlt).next
  | [], i => by simp [flat, zeroSlt]
  | s :: ss, 0 => by simp [flat]
  | s :: ss, i + 1 => by
    have := flat_get ss i
    have e0 : 4 * (i + 1) = 4 * i + 4 := by omega
    simp only [flat, e0, List.getD_cons_succ, show ∀ x : Nat, 4 * i + 4 + x = 4 * i + x + 4 by omega]
    simpa [List.getD_cons_succ] using this
theorem flat_set : ∀ (ss : List Slt) (i : Nat) (s : Slt), i < ss.length → ((((flat ss).set (4 * i) s.key).set (4 * i + 1) s.gen).set (4 * i + 2) s.refs).set (4 * i + 3) s.next = flat (ss.set i s)
  | [], i, s, h => by simp at h
  | x :: ss, 0, s, h => by simp [flat]
  | x :: ss, i + 1, s, h => by
    have := flat_set ss i s (by simpa using h)
    have e0 : 4 * (i + 1) = 4 * i + 4 := by omega
    simp only [flat, e0, List.set_cons_succ, show 4 * i + 4 + 1 = 4 * i + 1 + 4 by omega, show 4 * i + 4 + 2 = 4 * i + 2 + 4 by omega, show 4 * i + 4 + 3 = 4 * i + 3 + 4 by omega]
    rw [this]
theorem flat_inj : ∀ {a b : List Slt}, flat a = flat b → a = b
  | [], [], _ => rfl
  | [], _ :: _, h => by simp [flat] at h
  | _ :: _, [], h => by simp [flat] at h
  | x :: a, y :: b, h => by
    simp only [flat, List.cons.injEq] at h
    obtain ⟨h1, h2, h3, h4, h5⟩ := h
    rw [flat_inj h5]
    cases x; cases y; simp_all
/-- a slot read out of a row -/
theorem RowZ.slot {a : Option Addr} {ss : List Slt} {W : World} (h : RowZ a (flat ss) W) {i : Nat} (hi : i < ss.length) : ∃ b o, a = some ⟨b, o, none⟩ ∧ b < W.heap.size ∧
    W.cell? ⟨b, o + i * 4, none⟩ = some (.int .i64 (ss.getD i zeroSlt).key) ∧ W.cell? ⟨b, o + i * 4 + 1, none⟩ = some (.int .i64 (ss.getD i zeroSlt).gen) ∧ W.cell? ⟨b, o + i * 4 + 2, none⟩ = some (.int .i64 (ss.getD i zeroSlt).refs) ∧ W.cell? ⟨b, o + i * 4 + 3, none⟩ = some (.int .i64 (ss.getD i zeroSlt).next) := by
  have hl := flat_len ss
  obtain ⟨g0, g1, g2, g3⟩ := flat_get ss i
  obtain ⟨b, o, e, hb, c0⟩ := h (4 * i) (by omega)
  obtain ⟨b1, o1, e1, _, c1⟩ := h (4 * i + 1) (by omega)
  obtain ⟨b2, o2, e2, _, c2⟩ := h (4 * i + 2) (by omega)
  obtain ⟨b3, o3, e3, _, c3⟩ := h (4 * i + 3) (by omega)
  rw [e] at e1 e2 e3
  injection e1 with e1; injection e1 with q1 r1
  injection e2 with e2; injection e2 with q2 r2
  injection e3 with e3; injection e3 with q3 r3
  subst q1 r1 q2 r2 q3 r3
  rw [g0] at c0
  rw [g1] at c1
  rw [g2] at c2
  rw [g3] at c3
  have q : o + i * 4 = o + 4 * i := by omega
  refine ⟨b, o, e, hb, ?_⟩
  rw [q]
  exact ⟨c0, c1, c2, c3⟩
theorem made_slots (n : Nat) : madeCells #[.int .i64 0, .int .i64 0, .int .i64 0, .int .i64 0] n = intCells (List.replicate n 0) := by
  apply Array.ext
  · simp [size_madeCells, intCells]
  · intro i h1 h2
    have h4 : i % 4 < 4 := Nat.mod_lt _ (by omega)
    simp only [madeCells, intCells, Array.getElem_map, Array.getElem_range, List.getElem_toArray, List.getElem_map, List.getElem_replicate]
    rcases (by omega : i % 4 = 0 ∨ i % 4 = 1 ∨ i % 4 = 2 ∨ i % 4 = 3) with e | e | e | e <;> simp [e]
theorem flat_part (ss : List Slt) (k : Nat) (h : k < ss.length) : ((((partZ (flat ss) (4 * k)).set (4 * k) (ss.getD k zeroSlt).key).set (4 * k + 1) (ss.getD k zeroSlt).gen).set (4 * k + 2) (ss.getD k zeroSlt).refs).set (4 * k + 3) (ss.getD k zeroSlt).next = partZ (flat ss) (4 * (k + 1)) := by
  have hl := flat_len ss
  obtain ⟨g0, g1, g2, g3⟩ := flat_get ss k
  rw [← g0, ← g1, ← g2, ← g3, partZ_step _ _ (by omega), partZ_step _ _ (by omega), partZ_step _ _ (by omega), partZ_step _ _ (by omega)]
  congr 1
theorem flat_markd (zs : List Int) (k0 : Int) (j : Nat) (h : 4 * j + 3 < zs.length) : ((((markd zs k0 (4 * j)).set (4 * j) (k0 + 4 * j)).set (4 * j + 1) (k0 + 4 * j + 1)).set (4 * j + 2) (k0 + 4 * j + 2)).set (4 * j + 3) (k0 + 4 * j + 3) = markd zs k0 (4 * (j + 1)) := by
  have e0 : k0 + 4 * (j : Int) = k0 + ((4 * j : Nat) : Int) := by omega
  have e1 : k0 + 4 * (j : Int) + 1 = k0 + ((4 * j + 1 : Nat) : Int) := by omega
  have e2 : k0 + 4 * (j : Int) + 2 = k0 + ((4 * j + 2 : Nat) : Int) := by omega
  have e3 : k0 + 4 * (j : Int) + 3 = k0 + ((4 * j + 3 : Nat) : Int) := by omega
  rw [e1, e2, e3, e0, markd_step _ _ _ (by omega), markd_step _ _ _ (by omega), markd_step _ _ _ (by omega), markd_step _ _ _ (by omega)]
  congr 1
end Go.Proofs.Ytcopfejonbbmnaa
end

section
namespace Go.Proofs.Ytcopfejonbbmnaa
open Go.ChangeShapes Go.WideShapes Go.ChangeAt Go.RowKit
open Go.ChangeMaps (open_string shut_string)
set_option linter.unusedVariables false

theorem l02Is_any (n lo hi : Int) (w : World) :
    Calls Try.prog 52 #[.int .i64 n, .int .i64 lo, .int .i64 hi] w fun e w' => e = .returned (.bool (decide (lo ≤ n) && decide (n ≤ hi))) ∧ w' = w := by
  by_cases h1 : lo ≤ n
  · by_cases h2 : n ≤ hi
    · go_enter Try.func52, Try.ntmps52
      go_wp2
      go_ret
      exact ⟨by simp [h1, h2], rfl⟩
    · go_enter Try.func52, Try.ntmps52
      go_wp2
      go_ret
      exact ⟨by simp [h2], rfl⟩
  · go_enter Try.func52, Try.ntmps52
    go_wp2
    go_ret
    exact ⟨by simp; omega, rfl⟩
end Go.Proofs.Ytcopfejonbbmnaa
end
