/- Proved here: impl.isState answers whether a number is a state; memory stays (no conditions). -/
import Derived.Test.YtbhemimhmkgfiaaDoorTcpMath
namespace Go.Proofs.YtbhemimhmkgfiaaDoor
open Go.ChangeShapes Go.WideShapes Go.ChangeAt Go.RowKit
set_option linter.unusedVariables false
set_option maxRecDepth 100000

set_option maxHeartbeats 2000000 in
theorem isState_any (s : Int) (w : World) :
    Calls Tryd.prog 49 #[.int .i64 s] w fun e w' => e = .returned (.bool (stB s)) ∧ w' = w := by
  by_cases h0 : 0 ≤ s
  · by_cases h8 : s ≤ 8
    · have e : Hid (stB s = true) := hidS (stB_iff.2 ⟨h0, h8⟩)
      go_enter Tryd.func49, Tryd.ntmps49
      go_wp2
      go_ret
      exact ⟨by rw [e.out]; rfl, rfl⟩
    · have e : Hid (stB s = false) := by show _ = _; unfold stB; simp; omega
      go_enter Tryd.func49, Tryd.ntmps49
      go_wp2
      go_ret
      exact ⟨by rw [e.out]; rfl, rfl⟩
  · have e : Hid (stB s = false) := by show _ = _; unfold stB; simp; omega
    go_enter Tryd.func49, Tryd.ntmps49
    go_wp2
    go_ret
    exact ⟨by rw [e.out]; rfl, rfl⟩
end Go.Proofs.YtbhemimhmkgfiaaDoor
