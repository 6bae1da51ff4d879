/- Proved here: small facts on a block of a call's own: its cells, what a store leaves (no program of its own). · Proved here: nothing of a program: kinds of values, told of each operation of a region. · Proved here: nothing of a program: rows of numbers in memory, read and written. · Proved here: nothing of a program: slots laid out as numbers, four each. · Proved here: plain facts on sums: a sum folded into a word, the words of a text added up, a check that turns; and two facts on the bits of int64 (no program of its own). · Proved here: small facts for walks: equal numbers return alike (no program of its own). · Proved here: spec.l02Is answers whether a number lies between two, and leaves memory alone (no conditions). · Proved here: spec.l06Key, spec.l02Time, spec.l06End and spec.l06Next answer as the plain functions; all old memory stays (condition: few chains, few slots). -/
import Derived.Test.YtfjgofmjhccdkaaGrow
import Derived.Test.YtfjgofmjhccdkaaRows
import Derived.WalkKit
import Derived.WalkSpells
import Derived.ProofKit
import Derived.OpenShut
import Derived.ShutString
import Derived.Handy
import Derived.Below
import Derived.Laws.BitsAllLaws
section
namespace Go.Proofs.Ytfjgofmjhccdkaa
open Go.ChangeShapes Go.WideShapes Go.ChangeAt Go.RowKit
set_option linter.unusedVariables false

/-- a block's cells, and that they may be written -/
theorem blk_cell {W : World} {B : Nat} {cs : Array Value} {t : TypeId} (h : W.heap[B]? = some (.cells cs t)) (k : Nat) : W.cell? ⟨B, k, none⟩ = cs[k]? := by simp [World.cell?, h]
theorem blk_free {W : World} {B : Nat} {cs : Array Value} {t : TypeId} (h : W.heap[B]? = some (.cells cs t)) (k : Nat) : W.frozen? ⟨B, k, none⟩ = false := by simp [World.frozen?, h]
theorem blk_lt {W : World} {B : Nat} {o : Obj} (h : W.heap[B]? = some o) : B < W.heap.size := (Array.getElem?_eq_some_iff.1 h).1
theorem blk_later {W W' : World} {B : Nat} {o : Obj} (h : W.heap[B]? = some o) (hb : Below W.heap.size W W') : W'.heap[B]? = some o := (hb.block B (blk_lt h)).trans h
/-- one cell is written -/
theorem blk_set {W : World} {B : Nat} {cs : Array Value} {t : TypeId} (h : W.heap[B]? = some (.cells cs t)) (k : Nat) (v : Value) : (W.setCell ⟨B, k, none⟩ v).heap[B]? = some (.cells (cs.setIfInBounds k v) t) := heap_setCell_same W B k cs t v h
theorem blk_other {W : World} {B g : Nat} {o : Obj} (h : W.heap[g]? = some o) (hne : g ≠ B) (k : Nat) (v : Value) : (W.setCell ⟨B, k, none⟩ v).heap[g]? = some o := (Below.heap_setCell W ⟨B, k, none⟩ v g hne).trans h

theorem below_at {B b k : Nat} {a w : World} {v : Value} (h : Below B a w) (hb : B ≤ b) : Below B a (w.setCell ⟨b, k, none⟩ v) := h.setCell hb v
theorem blk_alloc {W : World} {g : Nat} {o : Obj} (h : W.heap[g]? = some o) (o2 : Obj) : (W.alloc o2).heap[g]? = some o := (Below.heap_alloc W o2 g (blk_lt h)).trans h
end Go.Proofs.Ytfjgofmjhccdkaa
end

section
namespace Go.Proofs.Ytfjgofmjhccdkaa
open Go.ChangeShapes Go.WideShapes Go.ChangeAt Go.RowKit
set_option linter.unusedVariables false

/-- a kind of value: what is said of it in a world -/
def Kp : Type := Value → World → Prop
def isP (x : Value) : Kp := fun v _ => v = x
def anyP : Kp := fun _ _ => True
def kpOf (ks : List Kp) (i : Nat) (v : Value) (w : World) : Prop := (ks.getD i anyP) v w
/-- it lasts while old memory stays -/
def LastsB (k : Kp) : Prop := ∀ v W W', k v W → Below W.heap.size W W' → k v W'
def AllLastB : List Kp → Prop
  | [] => True
  | k :: ks => LastsB k ∧ AllLastB ks
theorem all_lastB : ∀ (ks : List Kp), AllLastB ks → ∀ i v W W', kpOf ks i v W → Below W.heap.size W W' → kpOf ks i v W'
  | [], _, i, v, W, W', h, hg => by simp [kpOf, anyP]
  | k :: ks, hl, 0, v, W, W', h, hg => hl.1 v W W' h hg
  | k :: ks, hl, i + 1, v, W, W', h, hg => all_lastB ks hl.2 i v W W' h hg
end Go.Proofs.Ytfjgofmjhccdkaa
end

section
namespace Go.Proofs.Ytfjgofmjhccdkaa
open Go.ChangeShapes Go.WideShapes Go.ChangeAt Go.RowKit
set_option linter.unusedVariables false

/-- numbers that can be read from a on -/
def RowZ (a : Option Addr) (zs : List Int) (W : World) : Prop := ∀ j, j < zs.length → ∃ b o, a = some ⟨b, o, none⟩ ∧ b < W.heap.size ∧ W.cell? ⟨b, o + j, none⟩ = some (.int .i64 (zs.getD j 0))
theorem RowZ.later {a : Option Addr} {zs : List Int} {W W' : World} (h : RowZ a zs W) (hb : Below W.heap.size W W') : RowZ a zs W' := fun j hj => by
  obtain ⟨b, o, e, hl, hc⟩ := h j hj
  exact ⟨b, o, e, Nat.lt_of_lt_of_le hl hb.size, (hb.cell (p := ⟨b, o + j, none⟩) hl).trans hc⟩
/-- a row's cells -/
def intCells (zs : List Int) : Array Value := (zs.map (Value.int .i64)).toArray
theorem intCells_size (zs : List Int) : (intCells zs).size = zs.length := by simp [intCells]
theorem intCells_get (zs : List Int) (j : Nat) (h : j < zs.length) : (intCells zs)[j]? = some (.int .i64 (zs.getD j 0)) := by
  simp [intCells, h]
theorem intCells_set (zs : List Int) (k : Nat) (z : Int) : (intCells zs).setIfInBounds k (.int .i64 z) = intCells (zs.set k z) := by
  simp [intCells, List.map_set]
/-- a row that may be written: it lies in one block, from place o on -/
def RowB (b o : Nat) (zs : List Int) (W : World) : Prop := ∃ cs t, W.heap[b]? = some (.cells cs t) ∧ ∀ j, j < zs.length → cs[o + j]? = some (.int .i64 (zs.getD j 0))
theorem RowB.read {b o : Nat} {zs : List Int} {W : World} (h : RowB b o zs W) : RowZ (some ⟨b, o, none⟩) zs W := fun j hj => by
  obtain ⟨cs, t, h1, h2⟩ := h
  exact ⟨b, o, rfl, blk_lt h1, (blk_cell h1 _).trans (h2 j hj)⟩
theorem RowB.lt {b o : Nat} {zs : List Int} {W : World} (h : RowB b o zs W) : b < W.heap.size := by
  obtain ⟨cs, t, h1, h2⟩ := h
  exact blk_lt h1
theorem rowB_new {b : Nat} {zs : List Int} {W : World} {t : TypeId} (h : W.heap[b]? = some (.cells (intCells zs) t)) : RowB b 0 zs W := ⟨_, _, h, fun j hj => by rw [Nat.zero_add]; exact intCells_get zs j hj⟩
theorem RowB.keep {b o : Nat} {zs : List Int} {W W' : World} (h : RowB b o zs W) (e : W'.heap[b]? = W.heap[b]?) : RowB b o zs W' := by
  obtain ⟨cs, t, h1, h2⟩ := h
  exact ⟨cs, t, e.trans h1, h2⟩
theorem RowB.later {b o : Nat} {zs : List Int} {W W' : World} (h : RowB b o zs W) (hb : Below W.heap.size W W') : RowB b o zs W' := h.keep (hb.block b h.lt)
theorem getD_set (zs : List Int) (k j : Nat) (z : Int) (hk : k < zs.length) : (zs.set k z).getD j 0 = if j = k then z else zs.getD j 0 := by
  by_cases e : j = k
  · subst e; simp [hk]
  · rw [if_neg e]; simp [List.getElem?_set_ne (Ne.symm e)]
theorem RowB.set {b o : Nat} {zs : List Int} {W : World} (h : RowB b o zs W) (k : Nat) (z : Int) (hk : k < zs.length) : RowB b o (zs.set k z) (W.setCell ⟨b, o + k, none⟩ (.int .i64 z)) := by
  obtain ⟨cs, t, h1, h2⟩ := h
  refine ⟨cs.setIfInBounds (o + k) (.int .i64 z), t, blk_set h1 (o + k) _, fun j hj => ?_⟩
  have hj' : j < zs.length := by simpa using hj
  rw [getD_set zs k j z hk]
  by_cases e : j = k
  · subst e
    have hlt : o + j < cs.size := (Array.getElem?_eq_some_iff.1 (h2 j hk)).1
    rw [if_pos rfl, Array.getElem?_setIfInBounds_self_of_lt hlt]
  · rw [if_neg e, Array.getElem?_setIfInBounds_ne (by omega)]
    exact h2 j hj'
/-- some made, the rest 0 -/
def partZ (zs : List Int) (k : Nat) : List Int := zs.take k ++ List.replicate (zs.length - k) 0
theorem partZ_len (zs : List Int) (k : Nat) (h : k ≤ zs.length) : (partZ zs k).length = zs.length := by simp [partZ]; omega
theorem partZ_all (zs : List Int) : partZ zs zs.length = zs := by simp [partZ]
theorem partZ_none (zs : List Int) : partZ zs 0 = List.replicate zs.length 0 := by simp [partZ]
theorem partZ_step (zs : List Int) (k : Nat) (h : k < zs.length) : (partZ zs k).set k (zs.getD k 0) = partZ zs (k + 1) := by
  apply List.ext_getElem
  · simp [partZ]; omega
  · intro i h1 h2
    simp only [partZ, List.getElem_set, List.getElem_append, List.length_take]
    by_cases e : k = i
    · subst e
      simp only [if_true]
      rw [dif_pos (by omega)]
      simp [h]
    · rw [if_neg e]
      by_cases hi : i < k
      · rw [dif_pos (by omega), dif_pos (by omega)]; simp
      · rw [dif_neg (by omega), dif_neg (by omega)]; simp
theorem made_ints (n : Nat) : madeCells #[.int .i64 0] n = intCells (List.replicate n 0) := by
  apply Array.ext
  · simp [size_madeCells, intCells]
  · intro i h1 h2
    simp [madeCells, intCells, Nat.mod_one]
/-- of all blocks that are there, this one alone may have turned -/
structure Tch (b : Nat) (w w' : World) : Prop where
  os : w'.os = w.os
  tape : w'.tape = w.tape
  output : w'.output = w.output
  size : w.heap.size ≤ w'.heap.size
  block : ∀ k, k < w.heap.size → k ≠ b → w'.heap[k]? = w.heap[k]?
theorem Tch.refl (b : Nat) (w : World) : Tch b w w := ⟨rfl, rfl, rfl, Nat.le_refl _, fun _ _ _ => rfl⟩
theorem Tch.set {b : Nat} {w w' : World} (h : Tch b w w') (o : Nat) (v : Value) : Tch b w (w'.setCell ⟨b, o, none⟩ v) :=
  ⟨h.os, h.tape, h.output, by simp only [World.setCell, Array.size_modify]; exact h.size, fun k hk hb => (Below.heap_setCell w' ⟨b, o, none⟩ v k hb).trans (h.block k hk hb)⟩
theorem Tch.drew {b : Nat} {w w' : World} (h : Tch b w w') : Tch b w w'.drew := ⟨h.os, h.tape, h.output, h.size, h.block⟩
theorem Tch.below {b B : Nat} {w w' : World} (h : Tch b w w') (hb : B ≤ b) (hB : B ≤ w.heap.size) : Below B w w' := ⟨h.os, h.tape, h.output, h.size, fun k hk => h.block k (by omega) (by omega)⟩
theorem RowB.touch {b c o : Nat} {zs : List Int} {W W' : World} (h : RowB b o zs W) (ht : Tch c W W') (hne : b ≠ c) : RowB b o zs W' := h.keep (ht.block b h.lt hne)
/-- so many numbers from k on -/
def marks (k : Int) (n : Nat) : List Int := (List.range n).map fun i : Nat => k + (i : Int)
theorem marks_len (k : Int) (n : Nat) : (marks k n).length = n := by simp [marks]
theorem marks_get (k : Int) (n j : Nat) (h : j < n) : (marks k n).getD j 0 = k + j := by simp [marks, h]
/-- the first j marked, the rest as they were -/
def markd (zs : List Int) (k : Int) (j : Nat) : List Int := (List.range zs.length).map fun i : Nat => if i < j then k + (i : Int) else zs.getD i 0
theorem markd_len (zs : List Int) (k : Int) (j : Nat) : (markd zs k j).length = zs.length := by simp [markd]
theorem markd_none (zs : List Int) (k : Int) : markd zs k 0 = zs := by
  apply List.ext_getElem
  · simp [markd]
  · intro i h1 h2
    simp [markd, h2]
theorem markd_all (zs : List Int) (k : Int) : markd zs k zs.length = marks k zs.length := by
  apply List.ext_getElem
  · simp [markd, marks]
  · intro i h1 h2
    have : i < zs.length := by simpa [markd] using h1
    simp [markd, marks, this]
theorem markd_step (zs : List Int) (k : Int) (j : Nat) (h : j < zs.length) : (markd zs k j).set j (k + j) = markd zs k (j + 1) := by
  apply List.ext_getElem
  · simp [markd]
  · intro i h1 h2
    have hi : i < zs.length := by simpa [markd] using h2
    simp only [List.getElem_set, markd, List.getElem_map, List.getElem_range]
    by_cases e : j = i
    · subst e; simp
    · rw [if_neg e]
      by_cases e3 : i < j
      · rw [if_pos e3, if_pos (by omega)]
      · rw [if_neg e3, if_neg (by omega)]
end Go.Proofs.Ytfjgofmjhccdkaa
end

section
namespace Go.Proofs.Ytfjgofmjhccdkaa
open Go.ChangeShapes Go.WideShapes Go.ChangeAt Go.RowKit
set_option linter.unusedVariables false

/-- a slot -/
structure Slt where
  key : Int
  gen : Int
  refs : Int
  next : Int
def zeroSlt : Slt := ⟨0, 0, 0, 0⟩
/-- a slab -/
structure Slb where
  slots : List Slt
  heads : List Int
def flat : List Slt → List Int
  | [] => []
  | s :: ss => s.key :: s.gen :: s.refs :: s.next :: flat ss
theorem flat_len : ∀ ss : List Slt, (flat ss).length = 4 * ss.length
  | [] => rfl
  | s :: ss => by simp only [flat, List.length_cons, flat_len ss]; omega
theorem flat_get : ∀ (ss : List Slt) (i : Nat), (flat ss).getD (4 * i) 0 = (ss.getD i zeroSlt).key ∧ (flat ss).getD (4 * i + 1) 0 = (ss.getD i zeroSlt).gen ∧ (flat ss).getD (4 * i + 2) 0 = (ss.getD i zeroSlt).refs ∧ (flat ss).getD (4 * i + 3) 0 = (ss.getD i zeroSlt).next
  | [], i => by simp [flat, zeroSlt]
  | s :: ss, 0 => by simp [flat]
  | s :: ss, i + 1 => by
    have := flat_get ss i
    have e0 : 4 * (i + 1) = 4 * i + 4 := by omega
    simp only [flat, e0, List.getD_cons_succ, show ∀ x : Nat, 4 * i + 4 + x = 4 * i + x + 4 by omega]
    simpa [List.getD_cons_succ] using this
theorem flat_set : ∀ (ss : List Slt) (i : Nat) (s : Slt), i < ss.length → ((((flat ss).set (4 * i) s.key).set (4 * i + 1) s.gen).set (4 * i + 2) s.refs).set (4 * i + 3) s.next = flat (ss.set i s)
  | [], i, s, h => by simp at h
  | x :: ss, 0, s, h => by simp [flat]
  | x :: ss, i + 1, s, h => by
    have := flat_set ss i s (by simpa using h)
    have e0 : 4 * (i + 1) = 4 * i + 4 := by omega
    simp only [flat, e0, List.set_cons_succ, show 4 * i + 4 + 1 = 4 * i + 1 + 4 by omega, show 4 * i + 4 + 2 = 4 * i + 2 + 4 by omega, show 4 * i + 4 + 3 = 4 * i + 3 + 4 by omega]
    rw [this]
theorem flat_inj : ∀ {a b : List Slt}, flat a = flat b → a = b
  | [], [], _ => rfl
  | [], _ :: _, h => by simp [flat] at h
  | _ :: _, [], h => by simp [flat] at h
  | x :: a, y :: b, h => by
    simp only [flat, List.cons.injEq] at h
    obtain ⟨h1, h2, h3, h4, h5⟩ := h
    rw [flat_inj h5]
    cases x; cases y; simp_all
/-- a slot read out of a row -/
theorem RowZ.slot {a : Option Addr} {ss : List Slt} {W : World} (h : RowZ a (flat ss) W) {i : Nat} (hi : i < ss.length) : ∃ b o, a = some ⟨b, o, none⟩ ∧ b < W.heap.size ∧
    W.cell? ⟨b, o + i * 4, none⟩ = some (.int .i64 (ss.getD i zeroSlt).key) ∧ W.cell? ⟨b, o + i * 4 + 1, none⟩ = some (.int .i64 (ss.getD i zeroSlt).gen) ∧ W.cell? ⟨b, o + i * 4 + 2, none⟩ = some (.int .i64 (ss.getD i zeroSlt).refs) ∧ W.cell? ⟨b, o + i * 4 + 3, none⟩ = some (.int .i64 (ss.getD i zeroSlt).next) := by
  have hl := flat_len ss
  obtain ⟨g0, g1, g2, g3⟩ := flat_get ss i
  obtain ⟨b, o, e, hb, c0⟩ := h (4 * i) (by omega)
  obtain ⟨b1, o1, e1, _, c1⟩ := h (4 * i + 1) (by omega)
  obtain ⟨b2, o2, e2, _, c2⟩ := h (4 * i + 2) (by omega)
  obtain ⟨b3, o3, e3, _, c3⟩ := h (4 * i + 3) (by omega)
  rw [e] at e1 e2 e3
  injection e1 with e1; injection e1 with q1 r1
  injection e2 with e2; injection e2 with q2 r2
  injection e3 with e3; injection e3 with q3 r3
  subst q1 r1 q2 r2 q3 r3
  rw [g0] at c0
  rw [g1] at c1
  rw [g2] at c2
  rw [g3] at c3
  have q : o + i * 4 = o + 4 * i := by omega
  refine ⟨b, o, e, hb, ?_⟩
  rw [q]
  exact ⟨c0, c1, c2, c3⟩
theorem made_slots (n : Nat) : madeCells #[.int .i64 0, .int .i64 0, .int .i64 0, .int .i64 0] n = intCells (List.replicate n 0) := by
  apply Array.ext
  · simp [size_madeCells, intCells]
  · intro i h1 h2
    have h4 : i % 4 < 4 := Nat.mod_lt _ (by omega)
    simp only [madeCells, intCells, Array.getElem_map, Array.getElem_range, List.getElem_toArray, List.getElem_map, List.getElem_replicate]
    rcases (by omega : i % 4 = 0 ∨ i % 4 = 1 ∨ i % 4 = 2 ∨ i % 4 = 3) with e | e | e | e <;> simp [e]
theorem flat_part (ss : List Slt) (k : Nat) (h : k < ss.length) : ((((partZ (flat ss) (4 * k)).set (4 * k) (ss.getD k zeroSlt).key).set (4 * k + 1) (ss.getD k zeroSlt).gen).set (4 * k + 2) (ss.getD k zeroSlt).refs).set (4 * k + 3) (ss.getD k zeroSlt).next = partZ (flat ss) (4 * (k + 1)) := by
  have hl := flat_len ss
  obtain ⟨g0, g1, g2, g3⟩ := flat_get ss k
  rw [← g0, ← g1, ← g2, ← g3, partZ_step _ _ (by omega), partZ_step _ _ (by omega), partZ_step _ _ (by omega), partZ_step _ _ (by omega)]
  congr 1
theorem flat_markd (zs : List Int) (k0 : Int) (j : Nat) (h : 4 * j + 3 < zs.length) : ((((markd zs k0 (4 * j)).set (4 * j) (k0 + 4 * j)).set (4 * j + 1) (k0 + 4 * j + 1)).set (4 * j + 2) (k0 + 4 * j + 2)).set (4 * j + 3) (k0 + 4 * j + 3) = markd zs k0 (4 * (j + 1)) := by
  have e0 : k0 + 4 * (j : Int) = k0 + ((4 * j : Nat) : Int) := by omega
  have e1 : k0 + 4 * (j : Int) + 1 = k0 + ((4 * j + 1 : Nat) : Int) := by omega
  have e2 : k0 + 4 * (j : Int) + 2 = k0 + ((4 * j + 2 : Nat) : Int) := by omega
  have e3 : k0 + 4 * (j : Int) + 3 = k0 + ((4 * j + 3 : Nat) : Int) := by omega
  rw [e1, e2, e3, e0, markd_step _ _ _ (by omega), markd_step _ _ _ (by omega), markd_step _ _ _ (by omega), markd_step _ _ _ (by omega)]
  congr 1
end Go.Proofs.Ytfjgofmjhccdkaa
end

section
namespace Go.Proofs.Ytfjgofmjhccdkaa
open Go.ChangeShapes Go.WideShapes Go.ChangeAt Go.RowKit
open Go.ChangeMaps (open_string shut_string)
set_option linter.unusedVariables false

/-- a sum folded into a word -/
def foldN (n : Nat) : Nat := if n = 0 then 0 else (n - 1) % 65535 + 1
theorem foldN_le (n : Nat) : foldN n ≤ 65535 := by unfold foldN; split <;> omega
theorem foldN_word {n : Nat} (h : n ≤ 65535) : foldN n = n := by unfold foldN; split <;> omega
theorem foldN_step {n : Nat} (h : 65535 < n) : foldN (n % 65536 + n / 65536) = foldN n := by unfold foldN; rw [if_neg (by omega), if_neg (by omega)]; omega
theorem foldN_down {n : Nat} (h : 65535 < n) : n % 65536 + n / 65536 < n := by omega
theorem foldN_zero {n : Nat} : foldN n = 0 ↔ n = 0 := by unfold foldN; split <;> omega
theorem foldN_add (a b : Nat) : foldN (foldN a + foldN b) = foldN (a + b) := by
  unfold foldN
  by_cases ha : a = 0
  · subst ha
    by_cases hb : b = 0
    · subst hb; rfl
    · simp only [hb, if_false, if_true, Nat.zero_add]
      rw [if_neg (by omega)]
      omega
  · by_cases hb : b = 0
    · subst hb
      simp only [ha, if_false, if_true, Nat.add_zero]
      rw [if_neg (by omega)]
      omega
    · simp only [ha, hb, if_false]
      rw [if_neg (by omega), if_neg (by omega)]
      omega
theorem foldN_pos {n : Nat} (h : n ≠ 0) : foldN n = (n - 1) % 65535 + 1 := if_neg h
/-- a text with its check behind it -/
theorem foldN_good (a : Nat) : foldN (a + (65535 - foldN a)) = 65535 := by
  by_cases ha : a = 0
  · subst ha; rfl
  · have h1 := foldN_pos ha
    have h2 := foldN_le a
    rw [foldN_pos (by omega)]
    omega
/-- a check that turns with a word -/
theorem foldN_turn {a y z : Nat} (ha : a ≠ 0) (hy : y ≤ 65535) : foldN (65535 - (65535 - foldN (a + y)) + (65535 - y) + z) = foldN (a + z) := by
  have h1 := foldN_pos (n := a + y) (by omega)
  have h2 := foldN_le (a + y)
  rw [foldN_pos (n := a + z) (by omega), foldN_pos (by omega)]
  omega

/-- the words of a text added up -/
def rawSum : List UInt8 → Nat
  | [] => 0
  | [a] => 256 * a.toNat
  | a :: b :: l => 256 * a.toNat + b.toNat + rawSum l
theorem rawSum_two (a b : UInt8) (l : List UInt8) : rawSum (a :: b :: l) = 256 * a.toNat + b.toNat + rawSum l := rfl
theorem rawSum_app (k : Nat) : ∀ (l m : List UInt8), l.length = 2 * k → rawSum (l ++ m) = rawSum l + rawSum m := by
  induction k with
  | zero => intro l m h; obtain rfl : l = [] := List.length_eq_zero_iff.1 (by omega); simp [rawSum]
  | succ k ih =>
    intro l m h
    match l, h with
    | a :: b :: l, h =>
      have := ih l m (by simp at h; omega)
      simp only [List.cons_append, rawSum_two, this]
      omega
theorem rawSum_le : ∀ (n : Nat) (l : List UInt8), l.length ≤ n → rawSum l ≤ 65535 * l.length
  | 0, l, h => by obtain rfl : l = [] := List.length_eq_zero_iff.1 (by omega); simp [rawSum]
  | 1, l, h => by
    match l, h with
    | [], _ => simp [rawSum]
    | [a], _ => have := a.toNat_lt; simp [rawSum]; omega
  | n + 2, l, h => by
    match l, h with
    | [], _ => simp [rawSum]
    | [a], _ => have := a.toNat_lt; simp [rawSum]; omega
    | a :: b :: l, h =>
      have := rawSum_le n l (by simp at h; omega)
      have := a.toNat_lt
      have := b.toNat_lt
      rw [rawSum_two, List.length_cons, List.length_cons]
      omega
/-- the word at place i -/
theorem rawSum_step2 (l : List UInt8) (k : Nat) (h : 2 * k + 1 < l.length) : rawSum (l.take (2 * (k + 1))) = rawSum (l.take (2 * k)) + (256 * l[2 * k].toNat + l[2 * k + 1].toNat) := by
  have e : l.take (2 * (k + 1)) = l.take (2 * k) ++ [l[2 * k], l[2 * k + 1]] := by
    rw [show 2 * (k + 1) = 2 * k + 1 + 1 from by omega, List.take_succ_eq_append_getElem h, List.take_succ_eq_append_getElem (show 2 * k < l.length by omega), List.append_assoc]
    rfl
  rw [e, rawSum_app k _ _ (by simp; omega)]
  simp [rawSum]
theorem rawSum_step1 (l : List UInt8) (k : Nat) (h : 2 * k + 1 = l.length) : rawSum (l.take (2 * (k + 1))) = rawSum (l.take (2 * k)) + 256 * (l[2 * k]'(by omega)).toNat := by
  have e : l.take (2 * (k + 1)) = l.take (2 * k) ++ [l[2 * k]'(by omega)] := by
    rw [List.take_of_length_le (by omega), ← List.take_succ_eq_append_getElem (by omega), List.take_of_length_le (by omega)]
  rw [e, rawSum_app k _ _ (by simp; omega)]
  simp [rawSum]

/-- the word of that number in a text -/
def wordN (l : List UInt8) (k : Nat) : Nat := rawSum ((l.drop (2 * k)).take 2)
theorem rawSum_word (l : List UInt8) (k : Nat) (h : 2 * k < l.length) : rawSum (l.take (2 * (k + 1))) = rawSum (l.take (2 * k)) + wordN l k := by
  rw [show 2 * (k + 1) = 2 * k + 2 from by omega, List.take_add, rawSum_app k _ _ (by simp; omega)]
  rfl
theorem wordN_two (l : List UInt8) (k : Nat) (h : 2 * k + 1 < l.length) : wordN l k = 256 * l[2 * k].toNat + l[2 * k + 1].toNat := by
  have h1 := rawSum_step2 l k h
  have h2 := rawSum_word l k (by omega)
  omega
theorem wordN_one (l : List UInt8) (k : Nat) (h : 2 * k + 1 = l.length) : wordN l k = 256 * (l[2 * k]'(by omega)).toNat := by
  have h1 := rawSum_step1 l k h
  have h2 := rawSum_word l k (by omega)
  omega
theorem wordN_le (l : List UInt8) (k : Nat) : wordN l k ≤ 65535 * 2 := by
  have h1 := rawSum_le 2 ((l.drop (2 * k)).take 2) (by simp; omega)
  have h2 : ((l.drop (2 * k)).take 2).length ≤ 2 := by simp; omega
  unfold wordN
  omega
/-- what SumOf is to answer -/
def sumAns (s : ByteArray) : Nat := if 8000 < s.size then 0 else foldN (rawSum s.data.toList)
theorem sumAns_le (s : ByteArray) : sumAns s ≤ 65535 := by unfold sumAns; split; omega; exact foldN_le _
/-- a word -/
def wordB (z : Int) : Bool := decide (0 ≤ z) && decide (z ≤ 65535)
theorem wordB_iff {z : Int} : wordB z = true ↔ 0 ≤ z ∧ z ≤ 65535 := by simp [wordB]
/-- what CheckOf, SumAdd and CheckTurn are to answer -/
def checkAns (s : ByteArray) : Int := if 8000 < s.size then 0 else 65535 - (sumAns s : Int)
def addAns (a b : Int) : Int := if wordB a = true ∧ wordB b = true then (foldN (a + b).toNat : Int) else -1
def turnAns (c a b : Int) : Int := if wordB c = true ∧ wordB a = true ∧ wordB b = true then 65535 - (foldN (65535 - c + (65535 - a) + b).toNat : Int) else -1
def wordT (n : Int) : ByteArray := if wordB n = true then ⟨#[UInt8.ofNat (n.toNat / 256), UInt8.ofNat (n.toNat % 256)]⟩ else ⟨#[]⟩
theorem ofInt_i64 (a : Nat) (ha : a < 9223372036854775808) : (BitVec.ofInt 64 (a : Int)).toNat = a := by
  rw [BitVec.ofInt_natCast, BitVec.toNat_ofNat]; exact Nat.mod_eq_of_lt (by omega)
theorem i64_and_nat (a b : Nat) (ha : a < 9223372036854775808) (hb : b < 9223372036854775808) : bits .and .i64 (a : Int) (b : Int) = ((a &&& b : Nat) : Int) := by
  have hx : a &&& b < 2 ^ 63 := Nat.and_lt_two_pow _ (by omega)
  show IntKind.i64.wrap ((BitVec.ofInt 64 (a : Int) &&& BitVec.ofInt 64 (b : Int)).toNat : Int) = _
  rw [BitVec.toNat_and, ofInt_i64 a ha, ofInt_i64 b hb]
  exact IntWalk.i64_in _ (by omega)
theorem i64_or_nat (a b : Nat) (ha : a < 9223372036854775808) (hb : b < 9223372036854775808) : bits .or .i64 (a : Int) (b : Int) = ((a ||| b : Nat) : Int) := by
  have hx : a ||| b < 2 ^ 63 := Nat.or_lt_two_pow (by omega) (by omega)
  show IntKind.i64.wrap ((BitVec.ofInt 64 (a : Int) ||| BitVec.ofInt 64 (b : Int)).toNat : Int) = _
  rw [BitVec.toNat_or, ofInt_i64 a ha, ofInt_i64 b hb]
  exact IntWalk.i64_in _ (by omega)
theorem i64_low16 (n : Nat) (h : n < 9223372036854775808) : bits BinOp.and IntKind.i64 (n : Int) 65535 = ((n % 65536 : Nat) : Int) := by
  have := i64_and_nat n 65535 h (by omega)
  rw [show n &&& 65535 = n % 65536 from Nat.and_two_pow_sub_one_eq_mod n 16] at this
  exact this
theorem i64_join8 (a b : Nat) (ha : a < 256) (hb : b < 256) : bits BinOp.or IntKind.i64 ((a : Int) * 256) (b : Int) = ((256 * a + b : Nat) : Int) := by
  have := i64_or_nat (a * 256) b (by omega) (by omega)
  rw [nat_join 8 (a * 256) b (by omega) (by omega)] at this
  rw [show ((a : Int) * 256) = ((a * 256 : Nat) : Int) from by omega, this]
  omega
end Go.Proofs.Ytfjgofmjhccdkaa
end

section
namespace Go.Proofs.Ytfjgofmjhccdkaa
open Go.ChangeShapes Go.WideShapes Go.ChangeAt Go.RowKit
open Go.ChangeMaps (open_string shut_string)
set_option linter.unusedVariables false

theorem ret_intS {k : IntKind} {a b : Int} (h : a = b) : Ending.returned (.int k a) = .returned (.int k b) := by rw [h]
theorem val_intS {k : IntKind} {a b : Int} (h : a = b) : Value.int k a = .int k b := by rw [h]
theorem hidS {q : Prop} (h : q) : Hid q := h
theorem w64_small {n : Nat} (h : n < 256) : wrap64 (n : Int) = n := by unfold wrap64; omega
end Go.Proofs.Ytfjgofmjhccdkaa
end

section
namespace Go.Proofs.Ytfjgofmjhccdkaa
open Go.ChangeShapes Go.WideShapes Go.ChangeAt Go.RowKit
open Go.ChangeMaps (open_string shut_string)
set_option linter.unusedVariables false

theorem l02Is_any (n lo hi : Int) (w : World) :
    Calls Try.prog 61 #[.int .i64 n, .int .i64 lo, .int .i64 hi] w fun e w' => e = .returned (.bool (decide (lo ≤ n) && decide (n ≤ hi))) ∧ w' = w := by
  by_cases h1 : lo ≤ n
  · by_cases h2 : n ≤ hi
    · go_enter Try.func61, Try.ntmps61
      go_wp2
      go_ret
      exact ⟨by simp [h1, h2], rfl⟩
    · go_enter Try.func61, Try.ntmps61
      go_wp2
      go_ret
      exact ⟨by simp [h2], rfl⟩
  · go_enter Try.func61, Try.ntmps61
    go_wp2
    go_ret
    exact ⟨by simp; omega, rfl⟩
end Go.Proofs.Ytfjgofmjhccdkaa
end

section
namespace Go.Proofs.Ytfjgofmjhccdkaa
open Go.ChangeShapes Go.WideShapes Go.ChangeAt Go.RowKit
set_option linter.unusedVariables false
set_option linter.unusedSimpArgs false
set_option maxRecDepth 100000

def keyB (n : Int) : Bool := decide (0 ≤ n) && decide (n ≤ 999)
def timeB (n : Int) : Bool := decide (0 ≤ n) && decide (n ≤ 1000000)
/-- the end of a chain, of nH -/
def endB (nH : Nat) (n : Int) : Bool := decide (n < 0) && decide (-(nH : Int) ≤ n)
def nextB (nS nH : Nat) (n : Int) : Bool := endB nH n || (decide (0 ≤ n) && decide (n ≤ (nS : Int) - 1))
theorem l06Key_any (n : Int) (w : World) :
    Calls Try.prog 55 #[.int .i64 n] w fun e w' => e = .returned (.bool (keyB n)) ∧ w' = w := by
  go_enter Try.func55, Try.ntmps55
  go_wp2_with fail
  refine (l02Is_any n 0 999 _).mono ?_
  rintro e w1 ⟨rfl, rfl⟩
  go_wp2
  go_ret
  exact ⟨rfl, rfl⟩
theorem l02Time_any (n : Int) (w : World) :
    Calls Try.prog 90 #[.int .i64 n] w fun e w' => e = .returned (.bool (timeB n)) ∧ w' = w := by
  go_enter Try.func90, Try.ntmps90
  go_wp2_with fail
  refine (l02Is_any n 0 1000000 _).mono ?_
  rintro e w1 ⟨rfl, rfl⟩
  go_wp2
  go_ret
  exact ⟨rfl, rfl⟩
set_option maxHeartbeats 1000000 in
theorem l06End_any (aS aH : Option Addr) (nS cS nH cH : Nat) (n : Int) (w : World) (hH : nH ≤ 1048576) :
    Calls Try.prog 134 #[.agg #[.slice aS nS cS, .slice aH nH cH], .int .i64 n] w fun e w' => e = .returned (.bool (endB nH n)) ∧ Below w.heap.size w w' := by
  have HB := fun o => hidS ((Below.refl w.heap.size w).alloc (Nat.le_refl _) o)
  by_cases h0 : n < 0
  · by_cases h1 : -(nH : Int) ≤ n
    · have e : Hid (endB nH n = true) := by show _ = _; unfold endB; simp [h0, h1]
      go_enter Try.func134, Try.ntmps134
      go_wp2
      go_ret
      exact ⟨by rw [e.out]; rfl, (HB _).out⟩
    · have e : Hid (endB nH n = false) := by show _ = _; unfold endB; simp; omega
      go_enter Try.func134, Try.ntmps134
      go_wp2
      go_ret
      exact ⟨by rw [e.out]; rfl, (HB _).out⟩
  · have e : Hid (endB nH n = false) := by show _ = _; unfold endB; simp; omega
    go_enter Try.func134, Try.ntmps134
    go_wp2
    go_ret
    exact ⟨by rw [e.out]; rfl, (HB _).out⟩
end Go.Proofs.Ytfjgofmjhccdkaa
end
