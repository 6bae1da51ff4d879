/- Proved here: nothing of a program: what a time is. -/
import Derived.Test.YtbhemimhmkgfiaaDoorWords
namespace Go.Proofs.YtbhemimhmkgfiaaDoor
set_option linter.unusedVariables false

def tmB (n : Int) : Bool := decide (0 ≤ n) && decide (n ≤ 1000000)
theorem tmB_iff {n : Int} : tmB n = true ↔ 0 ≤ n ∧ n ≤ 1000000 := by unfold tmB; simp
end Go.Proofs.YtbhemimhmkgfiaaDoor
