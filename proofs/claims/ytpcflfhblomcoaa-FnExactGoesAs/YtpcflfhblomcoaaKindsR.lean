/- Proved here: nothing of a program: kinds of values that are rows of rules or tuples, and blocks that are made, told in a region. -/
import Derived.Test.YtpcflfhblomcoaaAll15
import Derived.Test.YtpcflfhblomcoaaRowRule
import Derived.Test.YtpcflfhblomcoaaRowTuple
namespace Go.Proofs.Ytpcflfhblomcoaa
open Go.ChangeShapes Go.WideShapes Go.ChangeAt Go.RowKit
set_option linter.unusedVariables false
/-- a row of numbers, so many things -/
def rowK (n : Nat) (zs : List Int) : Kp := fun v W => ∃ b, v = .slice (some ⟨b, 0, none⟩) n n ∧ RowZ (some ⟨b, 0, none⟩) zs W
theorem rowK_last (n : Nat) (zs : List Int) : LastsB (rowK n zs) := fun v W W' h hb => by
  obtain ⟨b, e, h1⟩ := h
  exact ⟨b, e, h1.later hb⟩
/-- a block that was made -/
def mkB (lo0 : Nat) (cs : Array Value) (ty : TypeId) : Kp := fun v W => ∃ B, v = .pointer (some ⟨B, 0, none⟩) ∧ lo0 ≤ B ∧ W.heap[B]? = some (.cells cs ty)
theorem mkB_last (lo0 : Nat) (cs : Array Value) (ty : TypeId) : LastsB (mkB lo0 cs ty) := fun v W W' h hb => by
  obtain ⟨B, e, h1, h2⟩ := h
  exact ⟨B, e, h1, blk_later h2 hb⟩
def noR : Value → Value → World → Prop := fun _ _ _ => True
theorem noR_last : ∀ a b W W', noR a b W → Below W.heap.size W W' → noR a b W' := fun _ _ _ _ _ _ => trivial
end Go.Proofs.Ytpcflfhblomcoaa
