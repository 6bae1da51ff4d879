/- Proved here: nothing of a program: rows of numbers in memory, read and written. -/
import Derived.Test.YtpcflfhblomcoaaBlk
namespace Go.Proofs.Ytpcflfhblomcoaa
open Go.ChangeShapes Go.WideShapes Go.ChangeAt Go.RowKit
set_option linter.unusedVariables false

/-- numbers that can be read from a on -/
def RowZ (a : Option Addr) (zs : List Int) (W : World) : Prop := ∀ j, j < zs.length → ∃ b o, a = some ⟨b, o, none⟩ ∧ b < W.heap.size ∧ W.cell? ⟨b, o + j, none⟩ = some (.int .i64 (zs.getD j 0))
theorem RowZ.later {a : Option Addr} {zs : List Int} {W W' : World} (h : RowZ a zs W) (hb : Below W.heap.size W W') : RowZ a zs W' := fun j hj => by
  obtain ⟨b, o, e, hl, hc⟩ := h j hj
  exact ⟨b, o, e, Nat.lt_of_lt_of_le hl hb.size, (hb.cell (p := ⟨b, o + j, none⟩) hl).trans hc⟩
/-- a row's cells -/
def intCells (zs : List Int) : Array Value := (zs.map (Value.int .i64)).toArray
theorem intCells_size (zs : List Int) : (intCells zs).size = zs.length := by simp [intCells]
theorem intCells_get (zs : List Int) (j : Nat) (h : j < zs.length) : (intCells zs)[j]? = some (.int .i64 (zs.getD j 0)) := by
  simp [intCells, h]
theorem intCells_set (zs : List Int) (k : Nat) (z : Int) : (intCells zs).setIfInBounds k (.int .i64 z) = intCells (zs.set k z) := by
  simp [intCells, List.map_set]
/-- a row that may be written: it lies in one block, from place o on -/
def RowB (b o : Nat) (zs : List Int) (W : World) : Prop := ∃ cs t, W.heap[b]? = some (.cells cs t) ∧ ∀ j, j < zs.length → cs[o + j]? = some (.int .i64 (zs.getD j 0))
theorem RowB.read {b o : Nat} {zs : List Int} {W : World} (h : RowB b o zs W) : RowZ (some ⟨b, o, none⟩) zs W := fun j hj => by
  obtain ⟨cs, t, h1, h2⟩ := h
  exact ⟨b, o, rfl, blk_lt h1, (blk_cell h1 _).trans (h2 j hj)⟩
theorem RowB.lt {b o : Nat} {zs : List Int} {W : World} (h : RowB b o zs W) : b < W.heap.size := by
  obtain ⟨cs, t, h1, h2⟩ := h
  exact blk_lt h1
theorem rowB_new {b : Nat} {zs : List Int} {W : World} {t : TypeId} (h : W.heap[b]? = some (.cells (intCells zs) t)) : RowB b 0 zs W := ⟨_, _, h, fun j hj => by rw [Nat.zero_add]; exact intCells_get zs j hj⟩
theorem RowB.keep {b o : Nat} {zs : List Int} {W W' : World} (h : RowB b o zs W) (e : W'.heap[b]? = W.heap[b]?) : RowB b o zs W' := by
  obtain ⟨cs, t, h1, h2⟩ := h
  exact ⟨cs, t, e.trans h1, h2⟩
theorem RowB.later {b o : Nat} {zs : List Int} {W W' : World} (h : RowB b o zs W) (hb : Below W.heap.size W W') : RowB b o zs W' := h.keep (hb.block b h.lt)
theorem getD_set (zs : List Int) (k j : Nat) (z : Int) (hk : k < zs.length) : (zs.set k z).getD j 0 = if j = k then z else zs.getD j 0 := by
  by_cases e : j = k
  · subst e; simp [hk]
  · rw [if_neg e]; simp [List.getElem?_set_ne (Ne.symm e)]
theorem RowB.set {b o : Nat} {zs : List Int} {W : World} (h : RowB b o zs W) (k : Nat) (z : Int) (hk : k < zs.length) : RowB b o (zs.set k z) (W.setCell ⟨b, o + k, none⟩ (.int .i64 z)) := by
  obtain ⟨cs, t, h1, h2⟩ := h
  refine ⟨cs.setIfInBounds (o + k) (.int .i64 z), t, blk_set h1 (o + k) _, fun j hj => ?_⟩
  have hj' : j < zs.length := by simpa using hj
  rw [getD_set zs k j z hk]
  by_cases e : j = k
  · subst e
    have hlt : o + j < cs.size := (Array.getElem?_eq_some_iff.1 (h2 j hk)).1
    rw [if_pos rfl, Array.getElem?_setIfInBounds_self_of_lt hlt]
  · rw [if_neg e, Array.getElem?_setIfInBounds_ne (by omega)]
    exact h2 j hj'
/-- some made, the rest 0 -/
def partZ (zs : List Int) (k : Nat) : List Int := zs.take k ++ List.replicate (zs.length - k) 0
theorem partZ_len (zs : List Int) (k : Nat) (h : k ≤ zs.length) : (partZ zs k).length = zs.length := by simp [partZ]; omega
theorem partZ_all (zs : List Int) : partZ zs zs.length = zs := by simp [partZ]
theorem partZ_none (zs : List Int) : partZ zs 0 = List.replicate zs.length 0 := by simp [partZ]
theorem partZ_step (zs : List Int) (k : Nat) (h : k < zs.length) : (partZ zs k).set k (zs.getD k 0) = partZ zs (k + 1) := by
  apply List.ext_getElem
  · simp [partZ]; omega
  · intro i h1 h2
    simp only [partZ, List.getElem_set, List.getElem_append, List.length_take]
    by_cases e : k = i
    · subst e
      simp only [if_true]
      rw [dif_pos (by omega)]
      simp [h]
    · rw [if_neg e]
      by_cases hi : i < k
      · rw [dif_pos (by omega), dif_pos (by omega)]; simp
      · rw [dif_neg (by omega), dif_neg (by omega)]; simp
theorem made_ints (n : Nat) : madeCells #[.int .i64 0] n = intCells (List.replicate n 0) := by
  apply Array.ext
  · simp [size_madeCells, intCells]
  · intro i h1 h2
    simp [madeCells, intCells, Nat.mod_one]
/-- of all blocks that are there, this one alone may have turned -/
structure Tch (b : Nat) (w w' : World) : Prop where
  os : w'.os = w.os
  tape : w'.tape = w.tape
  output : w'.output = w.output
  size : w.heap.size ≤ w'.heap.size
  block : ∀ k, k < w.heap.size → k ≠ b → w'.heap[k]? = w.heap[k]?
theorem Tch.refl (b : Nat) (w : World) : Tch b w w := ⟨rfl, rfl, rfl, Nat.le_refl _, fun _ _ _ => rfl⟩
theorem Tch.set {b : Nat} {w w' : World} (h : Tch b w w') (o : Nat) (v : Value) : Tch b w (w'.setCell ⟨b, o, none⟩ v) :=
  ⟨h.os, h.tape, h.output, by simp only [World.setCell, Array.size_modify]; exact h.size, fun k hk hb => (Below.heap_setCell w' ⟨b, o, none⟩ v k hb).trans (h.block k hk hb)⟩
theorem Tch.drew {b : Nat} {w w' : World} (h : Tch b w w') : Tch b w w'.drew := ⟨h.os, h.tape, h.output, h.size, h.block⟩
theorem Tch.below {b B : Nat} {w w' : World} (h : Tch b w w') (hb : B ≤ b) (hB : B ≤ w.heap.size) : Below B w w' := ⟨h.os, h.tape, h.output, h.size, fun k hk => h.block k (by omega) (by omega)⟩
theorem RowB.touch {b c o : Nat} {zs : List Int} {W W' : World} (h : RowB b o zs W) (ht : Tch c W W') (hne : b ≠ c) : RowB b o zs W' := h.keep (ht.block b h.lt hne)
/-- so many numbers from k on -/
def marks (k : Int) (n : Nat) : List Int := (List.range n).map fun i : Nat => k + (i : Int)
theorem marks_len (k : Int) (n : Nat) : (marks k n).length = n := by simp [marks]
theorem marks_get (k : Int) (n j : Nat) (h : j < n) : (marks k n).getD j 0 = k + j := by simp [marks, h]
/-- the first j marked, the rest as they were -/
def markd (zs : List Int) (k : Int) (j : Nat) : List Int := (List.range zs.length).map fun i : Nat => if i < j then k + (i : Int) else zs.getD i 0
theorem markd_len (zs : List Int) (k : Int) (j : Nat) : (markd zs k j).length = zs.length := by simp [markd]
theorem markd_none (zs : List Int) (k : Int) : markd zs k 0 = zs := by
  apply List.ext_getElem
  · simp [markd]
  · intro i h1 h2
    simp [markd, h2]
theorem markd_all (zs : List Int) (k : Int) : markd zs k zs.length = marks k zs.length := by
  apply List.ext_getElem
  · simp [markd, marks]
  · intro i h1 h2
    have : i < zs.length := by simpa [markd] using h1
    simp [markd, marks, this]
theorem markd_step (zs : List Int) (k : Int) (j : Nat) (h : j < zs.length) : (markd zs k j).set j (k + j) = markd zs k (j + 1) := by
  apply List.ext_getElem
  · simp [markd]
  · intro i h1 h2
    have hi : i < zs.length := by simpa [markd] using h2
    simp only [List.getElem_set, markd, List.getElem_map, List.getElem_range]
    by_cases e : j = i
    · subst e; simp
    · rw [if_neg e]
      by_cases e3 : i < j
      · rw [if_pos e3, if_pos (by omega)]
      · rw [if_neg e3, if_neg (by omega)]
end Go.Proofs.Ytpcflfhblomcoaa
