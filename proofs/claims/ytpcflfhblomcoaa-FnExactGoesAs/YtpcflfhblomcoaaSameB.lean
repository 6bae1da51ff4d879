/- Proved here: nothing of a program: a call that leaves memory alone keeps what lay there. -/
import Derived.Test.YtpcflfhblomcoaaBlk
namespace Go.Proofs.Ytpcflfhblomcoaa
open Go.ChangeShapes Go.WideShapes Go.ChangeAt Go.RowKit
set_option linter.unusedVariables false
theorem sameB {P : Program} {f : Nat} {a : Array Value} {w : World} {v : Ending} (h : Calls P f a w fun e w' => e = v ∧ w' = w) : Calls P f a w fun e w' => e = v ∧ Below w.heap.size w w' :=
  h.mono fun e x q => ⟨q.1, by rw [q.2]; exact Below.refl _ _⟩
end Go.Proofs.Ytpcflfhblomcoaa
