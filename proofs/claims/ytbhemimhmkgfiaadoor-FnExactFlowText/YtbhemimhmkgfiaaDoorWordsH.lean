/- Proved here: small facts for walks: equal numbers return alike (no program of its own). -/
import Derived.Test.YtbhemimhmkgfiaaDoorSumMath
namespace Go.Proofs.YtbhemimhmkgfiaaDoor
open Go.ChangeShapes Go.WideShapes Go.ChangeAt Go.RowKit
open Go.ChangeMaps (open_string shut_string)
set_option linter.unusedVariables false

theorem ret_intS {k : IntKind} {a b : Int} (h : a = b) : Ending.returned (.int k a) = .returned (.int k b) := by rw [h]
theorem val_intS {k : IntKind} {a b : Int} (h : a = b) : Value.int k a = .int k b := by rw [h]
theorem hidS {q : Prop} (h : q) : Hid q := h
theorem w64_small {n : Nat} (h : n < 256) : wrap64 (n : Int) = n := by unfold wrap64; omega
end Go.Proofs.YtbhemimhmkgfiaaDoor
