/- Proved here: the parts of impl.NextState answer as the plain functions; all old memory stays (condition: a state). -/
import Derived.Test.YtbhemimhmkgfiaaAll20
namespace Go.Proofs.Ytbhemimhmkgfiaa
open Go.ChangeShapes Go.WideShapes Go.ChangeAt Go.RowKit
set_option linter.unusedVariables false
set_option maxRecDepth 100000

/-- is the talk over? -/
def endedB (s : Int) : Bool := decide (s = 7) || decide (s = 8)
theorem isEnded_any (s : Int) (w : World) (h : stB s = true) :
    Calls Try.prog 76 #[.int .i64 s] w fun e w' => e = .returned (.bool (endedB s)) ∧ w' = w := by
  rcases states h with rfl | rfl | rfl | rfl | rfl | rfl | rfl | rfl | rfl <;>
  · clear h
    go_enter Try.func76, Try.ntmps76
    go_wp2
    go_ret
    exact ⟨rfl, rfl⟩
theorem nowhere_any (s : Int) (b : Bool) (w : World) :
    Calls Try.prog 79 #[.int .i64 s, .bool b] w fun e w' => e = .returned (.int .i64 (-1)) ∧ w' = w := by
  go_enter Try.func79, Try.ntmps79
  go_wp2
  go_ret
  exact ⟨rfl, rfl⟩
theorem afterReset_any (s : Int) (b : Bool) (w : World) (h : stB s = true) :
    Calls Try.prog 73 #[.int .i64 s, .bool b] w fun e w' => e = .returned (.int .i64 (rstZ s)) ∧ w' = w := by
  rcases states h with rfl | rfl | rfl | rfl | rfl | rfl | rfl | rfl | rfl <;>
  · clear h
    go_enter Try.func73, Try.ntmps73
    go_wp2
    go_ret
    exact ⟨rfl, rfl⟩
set_option maxHeartbeats 2000000 in
theorem afterSyn_any (s : Int) (b : Bool) (w : World) (h : stB s = true) :
    Calls Try.prog 74 #[.int .i64 s, .bool b] w fun e w' => e = .returned (.int .i64 (synZ s b)) ∧ w' = w := by
  have HE := hidS (fun W => isEnded_any s W h)
  cases b <;> rcases states h with rfl | rfl | rfl | rfl | rfl | rfl | rfl | rfl | rfl <;>
  · clear h
    go_enter Try.func74, Try.ntmps74
    go_wp2_with (go_at_call 76; refine (HE.out _).mono ?_; rintro e w1 ⟨rfl, rfl⟩; simp only [endedB])
    go_ret
    exact ⟨rfl, rfl⟩
set_option maxHeartbeats 2000000 in
theorem afterBoth_any (s : Int) (b : Bool) (w : World) (h : stB s = true) :
    Calls Try.prog 75 #[.int .i64 s, .bool b] w fun e w' => e = .returned (.int .i64 (bothZ s b)) ∧ w' = w := by
  cases b <;> rcases states h with rfl | rfl | rfl | rfl | rfl | rfl | rfl | rfl | rfl <;>
  · clear h
    go_enter Try.func75, Try.ntmps75
    go_wp2
    go_ret
    exact ⟨rfl, rfl⟩
set_option maxHeartbeats 2000000 in
theorem afterFin_any (s : Int) (b : Bool) (w : World) (h : stB s = true) (he : endedB s = false) :
    Calls Try.prog 77 #[.int .i64 s, .bool b] w fun e w' => e = .returned (.int .i64 (finZ s)) ∧ w' = w := by
  rcases states h with rfl | rfl | rfl | rfl | rfl | rfl | rfl | rfl | rfl
  case inr.inr.inr.inr.inr.inr.inr.inl => cases he
  case inr.inr.inr.inr.inr.inr.inr.inr => cases he
  all_goals
    clear h he
    go_enter Try.func77, Try.ntmps77
    go_wp2
    go_ret
    exact ⟨rfl, rfl⟩
set_option maxHeartbeats 2000000 in
theorem afterAck_any (s : Int) (b : Bool) (w : World) (h : stB s = true) :
    Calls Try.prog 78 #[.int .i64 s, .bool b] w fun e w' => e = .returned (.int .i64 (ackZ s b)) ∧ w' = w := by
  cases b <;> rcases states h with rfl | rfl | rfl | rfl | rfl | rfl | rfl | rfl | rfl <;>
  · clear h
    go_enter Try.func78, Try.ntmps78
    go_wp2
    go_ret
    exact ⟨rfl, rfl⟩
end Go.Proofs.Ytbhemimhmkgfiaa
