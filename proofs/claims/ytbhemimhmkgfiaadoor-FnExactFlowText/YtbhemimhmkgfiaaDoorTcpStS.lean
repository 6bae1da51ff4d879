/- Proved here: spec.l05State answers whether a number is a state; memory stays (no conditions). -/
import Derived.Test.YtbhemimhmkgfiaaDoorTcpMath
import Derived.Test.YtbhemimhmkgfiaaDoorL02Is
namespace Go.Proofs.YtbhemimhmkgfiaaDoor
open Go.ChangeShapes Go.WideShapes Go.ChangeAt Go.RowKit
set_option linter.unusedVariables false
set_option maxRecDepth 100000

theorem l05State_any (s : Int) (w : World) :
    Calls Tryd.prog 47 #[.int .i64 s] w fun e w' => e = .returned (.bool (stB s)) ∧ w' = w := by
  go_enter Tryd.func47, Tryd.ntmps47
  go_wp2_with fail
  refine (l02Is_any s 0 8 _).mono ?_
  rintro e w1 ⟨rfl, rfl⟩
  go_wp2
  go_ret
  exact ⟨rfl, rfl⟩
end Go.Proofs.YtbhemimhmkgfiaaDoor
