/- Proved here: plain facts and words: the answers of SlabGet and SlabPut, and whether a slot is linked. -/
import Derived.Test.YtjhkaideckgffaaSlabOwn
import Derived.Test.YtjhkaideckgffaaSlabRefs
import Derived.Test.YtjhkaideckgffaaSlabFindP
namespace Go.Proofs.Ytjhkaideckgffaa
open Go.ChangeShapes Go.WideShapes Go.ChangeAt Go.RowKit
set_option linter.unusedVariables false
set_option linter.unusedSimpArgs false
set_option maxRecDepth 100000

/-- an answer that hands a slab back, with a place and a code -/
def OutAns (s : Slb) (at_ code : Int) (w : World) (e : Ending) (w' : World) : Prop :=
  ∃ aS cS aH cH, e = .returned (.agg #[.slice aS s.slots.length cS, .slice aH s.heads.length cH, .int .i64 at_, .int .i64 code]) ∧ SlabO w.heap.size w'.heap.size aS aH s w' ∧ Below w.heap.size w w'
theorem ill_out {c : Int} {w w' : World} {e : Ending} (h : e = .returned (.agg #[.slice none 0 0, .slice none 0 0, .int .i64 0, .int .i64 c]) ∧ Below w.heap.size w w') : OutAns ⟨[], []⟩ 0 c w e w' :=
  ⟨none, 0, none, 0, h.1, ⟨.inl rfl, .inl rfl, fun _ _ _ _ e => by cases e⟩, h.2⟩
/-- a right slab and one of its slots -/
def atB (s : Slb) (n : Int) : Bool := rightSl s && (decide (0 ≤ n) && decide (n ≤ (s.slots.length : Int) - 1))
/-- what l06Begin answers -/
def beginAns (s : Slb) (n : Int) : Int := if atB s n = true then (if (slotN s n).refs = 0 then 6 else 0) else 1
theorem begin_at {s : Slb} {n : Int} (h : beginAns s n = 0) : rightSl s = true ∧ 0 ≤ n ∧ n < s.slots.length := by
  unfold beginAns at h
  cases hb : atB s n
  · rw [hb] at h; simp at h
  · unfold atB at hb; simp at hb; exact ⟨hb.1, hb.2.1, by omega⟩
/-- the code of SlabGet -/
def getC (s : Slb) (n : Int) : Int := if beginAns s n = 0 then (if 1000000 ≤ (slotN s n).refs then 9 else 0) else beginAns s n
/-- what SlabGet answers -/
def getS (s : Slb) (n : Int) : Slb := if getC s n = 0 then refS s n ((slotN s n).refs + 1) else ⟨[], []⟩
def getA (s : Slb) (n : Int) : Int := if getC s n = 0 then n else 0
/-- is the slot linked? -/
def linkedB (s : Slb) (n : Int) : Bool := findSl s (slotN s n).key == n
theorem key_nat {s : Slb} (h : rightSl s = true) {i : Nat} (hi : i < s.slots.length) : 0 ≤ (s.slots.getD i zeroSlt).key := by
  unfold rightSl slotsB at h
  simp only [Bool.and_eq_true, List.all_eq_true] at h
  have := h.1.2.1 (s.slots.getD i zeroSlt) (by rw [List.getD_eq_getElem?_getD, List.getElem?_eq_getElem hi]; exact List.getElem_mem _)
  unfold okS keyB at this
  simp only [Bool.and_eq_true, decide_eq_true_eq] at this
  exact this.1.1.1.1
/-- the code of SlabPut -/
def putC (s : Slb) (n : Int) : Int := if beginAns s n = 0 then (if (slotN s n).refs = 1 ∧ linkedB s n = true then 10 else 0) else beginAns s n
/-- what SlabPut answers -/
def putS (s : Slb) (n : Int) : Slb := if putC s n = 0 then refS s n ((slotN s n).refs - 1) else ⟨[], []⟩
def putA (s : Slb) (n : Int) : Int := if putC s n = 0 then n else 0
end Go.Proofs.Ytjhkaideckgffaa
