/- Proved here: nothing of a program: kinds of values that are slabs, answers and rows, told in a region; plain facts on chains. -/
import Derived.Test.YtcopfejonbbmnaaKinds
import Derived.Test.YtcopfejonbbmnaaAll31
import Derived.Test.YtcopfejonbbmnaaSlabFactsA
import Derived.Test.YtcopfejonbbmnaaSlabNewS
namespace Go.Proofs.Ytcopfejonbbmnaa
open Go.ChangeShapes Go.WideShapes Go.ChangeAt Go.RowKit
set_option linter.unusedVariables false
set_option linter.unusedSimpArgs false
set_option maxRecDepth 100000

/-- an answer with a place and a code -/
def outK (u : Slb) (pl k : Int) : Kp := fun v W => ∃ (aS : Option Addr) (cS : Nat) (aH : Option Addr) (cH : Nat), v = .agg #[.slice aS u.slots.length cS, .slice aH u.heads.length cH, .int .i64 pl, .int .i64 k] ∧ SlabZ aS aH u W
theorem outK_last (u : Slb) (pl k : Int) : LastsB (outK u pl k) := fun v W W' h hb => by
  obtain ⟨aS, cS, aH, cH, e, hz⟩ := h
  exact ⟨aS, cS, aH, cH, e, hz.later hb⟩
/-- a slab -/
def slK (u : Slb) : Kp := fun v W => ∃ (aS : Option Addr) (cS : Nat) (aH : Option Addr) (cH : Nat), v = .agg #[.slice aS u.slots.length cS, .slice aH u.heads.length cH] ∧ SlabZ aS aH u W
theorem slK_last (u : Slb) : LastsB (slK u) := fun v W W' h hb => by
  obtain ⟨aS, cS, aH, cH, e, hz⟩ := h
  exact ⟨aS, cS, aH, cH, e, hz.later hb⟩
/-- a row of numbers -/
def numsK (zs : List Int) : Kp := fun v W => ∃ (a : Option Addr) (c : Nat), v = .slice a zs.length c ∧ RowZ a zs W
theorem numsK_last (zs : List Int) : LastsB (numsK zs) := fun v W W' h hb => by
  obtain ⟨a, c, e, hz⟩ := h
  exact ⟨a, c, e, hz.later hb⟩
/-- where a number lies -/
def ptrK (n : Int) : Kp := fun v W => ∃ (b o : Nat), v = .pointer (some ⟨b, o, none⟩) ∧ b < W.heap.size ∧ W.cell? ⟨b, o, none⟩ = some (.int .i64 n)
theorem ptrK_last (n : Int) : LastsB (ptrK n) := fun v W W' h hb => by
  obtain ⟨b, o, e, hl, hc⟩ := h
  exact ⟨b, o, e, Nat.lt_of_lt_of_le hl hb.size, (hb.cell (p := ⟨b, o, none⟩) hl).trans hc⟩
theorem chainAns_len {s : Slb} {c : Int} : (chainAns s c).length ≤ 24 := by
  unfold chainAns
  split
  · rename_i h
    unfold chainB at h
    simp only [Bool.and_eq_true, decide_eq_true_eq] at h
    obtain ⟨hr, h0, h1⟩ := h
    obtain ⟨C, rfl⟩ : ∃ C : Nat, c = C := ⟨c.toNat, by omega⟩
    obtain ⟨l, q1, q2⟩ := (rt_of hr).ch C (by omega)
    rw [chain_is q1 q2]
    have := gd_len q2
    have := (rt_sizes (rt_of hr).sz).2.1
    omega
  · simp
theorem new_len {n m : Int} : (newSl n m).slots.length ≤ 24 ∧ (newSl n m).heads.length ≤ 24 := by
  unfold newSl
  split
  · rename_i h
    unfold newB at h
    simp only [Bool.and_eq_true, decide_eq_true_eq] at h
    unfold zeroSlots ends
    simp
    omega
  · simp
end Go.Proofs.Ytcopfejonbbmnaa
