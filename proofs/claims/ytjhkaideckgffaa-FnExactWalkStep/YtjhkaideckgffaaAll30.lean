/- Proved here: nothing of a program: what WalkNew, WalkStep and WalkEnd answer, in plain words. · Proved here: nothing of a program: kinds of values, told of each operation of a region. -/
import Derived.Test.YtjhkaideckgffaaWalkMath
import Derived.Test.YtjhkaideckgffaaAll26
import Derived.Test.YtjhkaideckgffaaBlk
section
namespace Go.Proofs.Ytjhkaideckgffaa
open Go.ChangeShapes Go.WideShapes Go.ChangeAt Go.RowKit
set_option linter.unusedVariables false
set_option linter.unusedSimpArgs false
set_option maxRecDepth 100000

/-- an answer that hands a slab and a walker back, with a code -/
def WkAns (s : Slb) (k : Wlk) (code : Int) (w : World) (e : Ending) (w' : World) : Prop :=
  ∃ aS cS aH cH, e = .returned (.agg #[.slice aS s.slots.length cS, .slice aH s.heads.length cH, .int .i64 k.key, .int .i64 k.cur, .int .i64 k.stage, .int .i64 k.state, .int .i64 k.slot, .int .i64 k.gen, .int .i64 k.steps, .int .i64 code]) ∧ SlabO w.heap.size w'.heap.size aS aH s w' ∧ Below w.heap.size w w'
def zeroW : Wlk := ⟨0, 0, 0, 0, 0, 0, 0⟩
theorem ill_walk {c : Int} {w w' : World} {e : Ending} (h : e = .returned (.agg #[.slice none 0 0, .slice none 0 0, .int .i64 0, .int .i64 0, .int .i64 0, .int .i64 0, .int .i64 0, .int .i64 0, .int .i64 0, .int .i64 c]) ∧ Below w.heap.size w w') : WkAns ⟨[], []⟩ zeroW c w e w' :=
  ⟨none, 0, none, 0, h.1, ⟨.inl rfl, .inl rfl, fun _ _ _ _ e => by cases e⟩, h.2⟩
/-- the code of WalkNew, and what it answers -/
def newC (s : Slb) (key : Int) : Int := if (rightSl s && keyB key) = true then 0 else 1
def newWS (s : Slb) (key : Int) : Slb := if newC s key = 0 then s else ⟨[], []⟩
def newWW (s : Slb) (key : Int) : Wlk := if newC s key = 0 then ⟨key, hdK s key, 0, 0, 0, 0, 0⟩ else zeroW
/-- the code of WalkStep, and what it answers -/
def stepC (s : Slb) (k : Wlk) : Int := if wkRight s k = true then (if k.state = 0 then (if k.steps < 1000000 then 0 else 9) else 10) else 1
def stepWS (s : Slb) (k : Wlk) : Slb := if stepC s k = 0 then (stepP s k).1 else ⟨[], []⟩
def stepWW (s : Slb) (k : Wlk) : Wlk := if stepC s k = 0 then (stepP s k).2 else zeroW
/-- the code of WalkEnd, and what it answers -/
def endC (s : Slb) (k : Wlk) (n : Int) : Int := if (wkRight s k && (decide (0 ≤ n) && decide (n ≤ 100))) = true then 0 else 1
def endWS (s : Slb) (k : Wlk) (n : Int) : Slb := if endC s k n = 0 then (runP n.toNat s k).1 else ⟨[], []⟩
def endWW (s : Slb) (k : Wlk) (n : Int) : Wlk := if endC s k n = 0 then (runP n.toNat s k).2 else zeroW
theorem stepC_ok {s : Slb} {k : Wlk} (h : stepC s k = 0) : rightSl s = true ∧ wkR s k = true ∧ goB k = true := by
  unfold stepC at h
  by_cases hw : wkRight s k = true
  · rw [if_pos hw] at h
    unfold wkRight at hw
    simp only [Bool.and_eq_true] at hw
    by_cases h0 : k.state = 0
    · rw [if_pos h0] at h
      by_cases h1 : k.steps < 1000000
      · exact ⟨hw.1, hw.2, by unfold goB; simp [h0, h1]⟩
      · rw [if_neg h1] at h; cases h
    · rw [if_neg h0] at h; cases h
  · rw [if_neg hw] at h; cases h
theorem run_len : ∀ (n : Nat) (s : Slb) (k : Wlk), (runP n s k).1.slots.length = s.slots.length ∧ (runP n s k).1.heads = s.heads
  | 0, s, k => ⟨rfl, rfl⟩
  | n + 1, s, k => by
    cases h : goB k
    · rw [run_stop h]; exact ⟨rfl, rfl⟩
    · rw [run_go h]
      obtain ⟨e1, e2⟩ := run_len n (stepP s k).1 (stepP s k).2
      obtain ⟨_, _, q1, q2⟩ := step_key s k
      exact ⟨e1.trans q2, e2.trans q1⟩
/-- own memory and others' -/
theorem Tch.own {b a : Nat} {w w' : World} (h : Tch b w w') (ha : w.heap.size ≤ a) (o : Nat) (v : Value) : Tch b w (w'.setCell ⟨a, o, none⟩ v) :=
  ⟨h.os, h.tape, h.output, by simp only [World.setCell, Array.size_modify]; exact h.size, fun k hk hb => (Below.heap_setCell w' ⟨a, o, none⟩ v k (by show k ≠ a; omega)).trans (h.block k hk hb)⟩
theorem Tch.later {b : Nat} {w w' w'' : World} (h : Tch b w w') (hb : Below w'.heap.size w' w'') : Tch b w w'' :=
  ⟨hb.os.trans h.os, hb.tape.trans h.tape, hb.output.trans h.output, Nat.le_trans h.size hb.size, fun k hk ho => (hb.block k (Nat.lt_of_lt_of_le hk h.size)).trans (h.block k hk ho)⟩
theorem Tch.trans {b : Nat} {w w' w'' : World} (h : Tch b w w') (k : Tch b w' w'') : Tch b w w'' :=
  ⟨k.os.trans h.os, k.tape.trans h.tape, k.output.trans h.output, Nat.le_trans h.size k.size, fun i hi ho => (k.block i (Nat.lt_of_lt_of_le hi h.size) ho).trans (h.block i hi ho)⟩
theorem blk_tch {b g : Nat} {w w' : World} {o : Obj} (h : w.heap[g]? = some o) (ht : Tch b w w') (hne : g ≠ b) : w'.heap[g]? = some o := (ht.block g (blk_lt h) hne).trans h
end Go.Proofs.Ytjhkaideckgffaa
end

section
namespace Go.Proofs.Ytjhkaideckgffaa
open Go.ChangeShapes Go.WideShapes Go.ChangeAt Go.RowKit
set_option linter.unusedVariables false

/-- a kind of value: what is said of it in a world -/
def Kp : Type := Value → World → Prop
def isP (x : Value) : Kp := fun v _ => v = x
def anyP : Kp := fun _ _ => True
def kpOf (ks : List Kp) (i : Nat) (v : Value) (w : World) : Prop := (ks.getD i anyP) v w
/-- it lasts while old memory stays -/
def LastsB (k : Kp) : Prop := ∀ v W W', k v W → Below W.heap.size W W' → k v W'
def AllLastB : List Kp → Prop
  | [] => True
  | k :: ks => LastsB k ∧ AllLastB ks
theorem all_lastB : ∀ (ks : List Kp), AllLastB ks → ∀ i v W W', kpOf ks i v W → Below W.heap.size W W' → kpOf ks i v W'
  | [], _, i, v, W, W', h, hg => by simp [kpOf, anyP]
  | k :: ks, hl, 0, v, W, W', h, hg => hl.1 v W W' h hg
  | k :: ks, hl, i + 1, v, W, W', h, hg => all_lastB ks hl.2 i v W W' h hg
end Go.Proofs.Ytjhkaideckgffaa
end
