/- Proved here: spec.l02Addr answers whether a number is an address, and leaves memory alone (no conditions). -/
import Derived.Test.YtbhemimhmkgfiaaDoorAll3
import Derived.Test.YtbhemimhmkgfiaaDoorAll8
namespace Go.Proofs.YtbhemimhmkgfiaaDoor
open Go.ChangeShapes Go.WideShapes Go.ChangeAt Go.RowKit
set_option linter.unusedVariables false

theorem l02Addr_any (n : Int) (w : World) :
    Calls Tryd.prog 50 #[.int .i64 n] w fun e w' => e = .returned (.bool (addrB n)) ∧ w' = w := by
  go_enter Tryd.func50, Tryd.ntmps50
  go_wp2_with fail
  refine (l02Is_any n 0 4294967295 _).mono ?_
  rintro e w1 ⟨rfl, rfl⟩
  go_wp2
  go_ret
  exact ⟨rfl, rfl⟩

end Go.Proofs.YtbhemimhmkgfiaaDoor
