/- Proved here: nothing of a program: a slab with other holders of a slot. -/
import Derived.Test.YtjhkaideckgffaaSlabLeads
namespace Go.Proofs.Ytjhkaideckgffaa
open Go.ChangeShapes Go.WideShapes Go.ChangeAt Go.RowKit
set_option linter.unusedVariables false
set_option linter.unusedSimpArgs false
set_option maxRecDepth 100000

/-- the slab with other holders of a slot -/
def refS (s : Slb) (n r : Int) : Slb := ⟨s.slots.set n.toNat { slotN s n with refs := r }, s.heads⟩
theorem flat_refs : ∀ (ss : List Slt) (i : Nat) (r : Int), i < ss.length → (flat ss).set (4 * i + 2) r = flat (ss.set i { ss.getD i zeroSlt with refs := r })
  | [], i, r, h => by simp at h
  | x :: ss, 0, r, h => by simp [flat]
  | x :: ss, i + 1, r, h => by
    have := flat_refs ss i r (by simpa using h)
    simp only [flat, show 4 * (i + 1) + 2 = 4 * i + 2 + 4 by omega, List.set_cons_succ, List.getD_cons_succ]
    rw [this]
theorem RowB.other {b o g k : Nat} {zs : List Int} {W : World} {v : Value} (h : RowB b o zs W) (hne : b ≠ g) : RowB b o zs (W.setCell ⟨g, k, none⟩ v) := h.keep (Below.heap_setCell W ⟨g, k, none⟩ v b hne)
theorem refs_nat {s : Slb} (h : rightSl s = true) {i : Nat} (hi : i < s.slots.length) : 0 ≤ (s.slots.getD i zeroSlt).refs ∧ (s.slots.getD i zeroSlt).refs ≤ 1000000 := by
  unfold rightSl slotsB at h
  simp only [Bool.and_eq_true, List.all_eq_true] at h
  have := h.1.2.1 (s.slots.getD i zeroSlt) (by rw [List.getD_eq_getElem?_getD, List.getElem?_eq_getElem hi]; exact List.getElem_mem _)
  unfold okS timeB at this
  simp only [Bool.and_eq_true, decide_eq_true_eq] at this
  exact this.1.2
end Go.Proofs.Ytjhkaideckgffaa
