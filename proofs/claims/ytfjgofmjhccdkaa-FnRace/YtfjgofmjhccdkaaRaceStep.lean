/- Proved here: nothing of a program: how memory lies behind the walker's own step in laws.FnRace, rows of numbers read, kinds of walkers' answers. -/
import Derived.Test.YtfjgofmjhccdkaaAll39
import Derived.Test.YtfjgofmjhccdkaaAll1
import Derived.Test.YtfjgofmjhccdkaaAll12
import Derived.Test.YtfjgofmjhccdkaaAll20
namespace Go.Proofs.Ytfjgofmjhccdkaa
open Go.ChangeShapes Go.WideShapes Go.ChangeAt Go.RowKit
set_option linter.unusedVariables false
set_option linter.unusedSimpArgs false
set_option maxRecDepth 100000

/-- a walker's answer, its slab's rows can be read -/
def wkZ (t : Slb) (k : Wlk) (c : Int) : Kp := fun v W => ∃ (aS : Option Addr) (cS : Nat) (aH : Option Addr) (cH : Nat), v = .agg #[.slice aS t.slots.length cS, .slice aH t.heads.length cH, .int .i64 k.key, .int .i64 k.cur, .int .i64 k.stage, .int .i64 k.state, .int .i64 k.slot, .int .i64 k.gen, .int .i64 k.steps, .int .i64 c] ∧ SlabZ aS aH t W
theorem wkZ_last (t : Slb) (k : Wlk) (c : Int) : LastsB (wkZ t k c) := fun v W W' h hb => by
  obtain ⟨aS, cS, aH, cH, e, hz⟩ := h
  exact ⟨aS, cS, aH, cH, e, hz.later hb⟩
/-- the walker and the slab are those of its answer -/
theorem RcK.stepped {w W W' : World} {sa ka b2 o2 u2 b3 o3 u3 g2 p2 c2 g3 p3 c3 : Nat} {s t : Slb} {k k2 : Wlk} {v1 v2 : Value} {sl gs : List Int} {av : List Nat}
    (hT : TwoR w.heap.size 2 v1 v2 sl gs av W) (hav : ∀ q ∈ [sa, ka, g2, g3], q ∈ av) (hP : RowB g2 p2 (flat t.slots) W) (hQ : RowB g3 p3 t.heads W)
    (hb : w.heap.size ≤ sa ∧ w.heap.size ≤ g2 ∧ w.heap.size ≤ g3 ∧ sa ≠ g2 ∧ sa ≠ g3 ∧ w.heap.size ≤ ka ∧ ka ≠ sa ∧ ka ≠ g2 ∧ ka ≠ g3)
    (hS : W'.heap[sa]? = some (.cells #[.slice (some ⟨g2, p2, none⟩) t.slots.length c2, .slice (some ⟨g3, p3, none⟩) t.heads.length c3] 26))
    (hK : W'.heap[ka]? = some (.cells #[.int .i64 k2.key, .int .i64 k2.cur, .int .i64 k2.stage, .int .i64 k2.state, .int .i64 k2.slot, .int .i64 k2.gen, .int .i64 k2.steps] 30))
    (hO : ∀ b, b ≠ sa → b ≠ ka → W'.heap[b]? = W.heap[b]?) (hL : Below w.heap.size w W') : RcK w W' sa ka g2 p2 c2 g3 p3 c3 t k2 v1 v2 sl gs := by
  obtain ⟨h1, h2, h3, h4, h5, h6, h7, h8, h9⟩ := hb
  refine ⟨⟨hS, hP.keep (hO _ (Ne.symm h4) (Ne.symm h8)), hQ.keep (hO _ (Ne.symm h5) (Ne.symm h9)), ⟨h1, h2, h3, h4, h5⟩, hL⟩, hK, ⟨h6, h7, h8, h9⟩, ?_⟩
  have h := hT.keep (W' := W') fun q _ hn => hO q (fun e => hn (e ▸ hav sa (by simp))) (fun e => hn (e ▸ hav ka (by simp)))
  exact ⟨h.one, h.two, h.apart, fun q hq hm => h.away q hq (hav q hm)⟩
/-- all that the walker's own step leaves, told once -/
theorem race_step {s : Slb} {k : Wlk} {ab : Bool} {sl gs : List Int} {n : Nat} (h : ROb s k ab sl gs) (hs : k.steps ≤ n) (hn : n < 60) (n1 : 1 ≤ s.slots.length) (n2 : s.slots.length ≤ 24) (n3 : 1 ≤ s.heads.length) (n4 : s.heads.length ≤ 4) :
    ∃ t k2, stepWS s k = t ∧ stepWW s k = k2 ∧ stepC s k = 0 ∧ wkRight t k2 = true ∧ t.slots.length ≤ 1048576 ∧ t.heads.length ≤ 1048576 ∧ 1 ≤ t.slots.length ∧ 1 ≤ t.heads.length ∧ k2.steps ≤ (n : Int) + 1 ∧
      (k2.state = 2 → ab = true) ∧ (k2.state = 1 → (k2.slot, k2.gen) ∈ sl.zip gs ∧ 0 ≤ k2.slot ∧ k2.slot < t.slots.length ∧ kyN t k2.slot = 3 ∧ 1 ≤ (slotN t k2.slot).refs) ∧ (k2.state ≠ 2 → k2.state ≠ 1 → RInv t k2 ab sl gs) := by
  have hs' : k.steps < 1000000 := by omega
  obtain ⟨hc0, hgo⟩ := ob_code h.toRInv hs'
  obtain ⟨i1, i2, i3⟩ := inv_step h hs'
  obtain ⟨hr2, hw2⟩ := step_right h.r h.w hgo
  obtain ⟨_, hstp, hhd, hln⟩ := step_key s k
  refine ⟨_, _, if_pos hc0, if_pos hc0, hc0, by unfold wkRight; rw [hr2, hw2]; rfl, by omega, by rw [hhd]; omega, by omega, by rw [hhd]; omega, by omega, i1, fun q => ?_, i3⟩
  obtain ⟨a, b, c, d, e, f⟩ := i2 q
  rw [d]
  exact ⟨a, b, c, e, f⟩
/-- a row of one's own can be read -/
theorem own_read {W : World} {B : Nat} {t : TypeId} {a : Option Addr} {cap n : Nat} {zs : List Int} (h : W.ownsRow B t 1 (.slice a n cap) n (zs.map (.int .i64))) : RowZ a zs W := by
  obtain ⟨hl, h⟩ := h
  simp at hl
  rcases h with ⟨e, rfl⟩ | ⟨g, cap', cur, e, hg, hh, hn, _, hs, ht⟩
  · intro j hj; omega
  · injection e with e _ _
    subst e
    intro j hj
    refine ⟨g, 0, rfl, blk_lt hh, ?_⟩
    rw [Nat.zero_add]
    have h1 : (zs.map (Value.int .i64))[j]? = some (.int .i64 (zs.getD j 0)) := by simp [hj]
    rw [← ht, List.getElem?_take, if_pos (by omega)] at h1
    rw [blk_cell hh]
    simpa using h1
/-- none of the first ones is it -/
def notYet (sl gs : List Int) (x y : Int) (j : Nat) : Prop := ∀ i, i < j → ¬ (sl.getD i 0 = x ∧ gs.getD i 0 = y)
theorem notYet_end {sl gs : List Int} {x y : Int} (hl : sl.length = gs.length) (hm : (x, y) ∈ sl.zip gs) (h : notYet sl gs x y sl.length) : False := by
  obtain ⟨i, hi, e⟩ := List.mem_iff_getElem.1 hm
  have hi' : i < sl.length := by simp at hi; omega
  have hg' : i < gs.length := by omega
  rw [List.getElem_zip] at e
  injection e with e1 e2
  exact h i hi' ⟨by simp [hi', e1], by simp [hg', e2]⟩
theorem notYet_succ {sl gs : List Int} {x y : Int} {j : Nat} (h : notYet sl gs x y j) (hj : ¬ (sl.getD j 0 = x ∧ gs.getD j 0 = y)) : notYet sl gs x y (j + 1) := fun i hi => by
  rcases (by omega : i < j ∨ i = j) with q | q
  · exact h i q
  · subst q; exact hj
end Go.Proofs.Ytfjgofmjhccdkaa
