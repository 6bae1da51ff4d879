/- Proved here: impl.isEcho answers whether a Kind is an ask or a reply, and leaves memory alone (no conditions). -/
import Derived.Test.YtpcflfhblomcoaaAll4
import Derived.Test.YtpcflfhblomcoaaAll10
namespace Go.Proofs.Ytpcflfhblomcoaa
open Go.ChangeShapes Go.WideShapes Go.ChangeAt Go.RowKit
set_option linter.unusedVariables false

theorem isEcho_any (k : Int) (w : World) :
    Calls Try.prog 121 #[.int .i64 k] w fun e w' => e = .returned (.bool (echoB k)) ∧ w' = w := by
  by_cases h8 : k = 8
  · subst h8
    go_enter Try.func121, Try.ntmps121
    go_wp2
    go_ret
    exact ⟨rfl, rfl⟩
  · have h8' : (k == 8) = false := beq_eq_false_iff_ne.2 h8
    have e : Hid (echoB k = (k == 0)) := by show _ = _; unfold echoB; rw [decide_eq_false h8]; simp [BEq.beq]
    go_enter Try.func121, Try.ntmps121
    go_wp2
    go_ret
    exact ⟨by rw [e.out]; rfl, rfl⟩
end Go.Proofs.Ytpcflfhblomcoaa
