/- Proved here: spec.SignOf and impl.SignOf answer what flags say; memory stays (no conditions). · Proved here: spec.l05Ack and spec.l05Fin answer as the plain functions; memory stays (condition: a state). -/
import Derived.Test.YtbhemimhmkgfiaaAll6
import Derived.Test.YtbhemimhmkgfiaaAll7
import Derived.Test.YtbhemimhmkgfiaaAll20
section
namespace Go.Proofs.Ytbhemimhmkgfiaa
open Go.ChangeShapes Go.WideShapes Go.ChangeAt Go.RowKit
set_option linter.unusedVariables false
set_option maxRecDepth 100000

theorem sixty (f : Int) (h : 0 ≤ f ∧ f ≤ 63) : f = 0 ∨ f = 1 ∨ f = 2 ∨ f = 3 ∨ f = 4 ∨ f = 5 ∨ f = 6 ∨ f = 7 ∨ f = 8 ∨ f = 9 ∨ f = 10 ∨ f = 11 ∨ f = 12 ∨ f = 13 ∨ f = 14 ∨ f = 15 ∨ f = 16 ∨ f = 17 ∨ f = 18 ∨ f = 19 ∨ f = 20 ∨ f = 21 ∨ f = 22 ∨ f = 23 ∨ f = 24 ∨ f = 25 ∨ f = 26 ∨ f = 27 ∨ f = 28 ∨ f = 29 ∨ f = 30 ∨ f = 31 ∨ f = 32 ∨ f = 33 ∨ f = 34 ∨ f = 35 ∨ f = 36 ∨ f = 37 ∨ f = 38 ∨ f = 39 ∨ f = 40 ∨ f = 41 ∨ f = 42 ∨ f = 43 ∨ f = 44 ∨ f = 45 ∨ f = 46 ∨ f = 47 ∨ f = 48 ∨ f = 49 ∨ f = 50 ∨ f = 51 ∨ f = 52 ∨ f = 53 ∨ f = 54 ∨ f = 55 ∨ f = 56 ∨ f = 57 ∨ f = 58 ∨ f = 59 ∨ f = 60 ∨ f = 61 ∨ f = 62 ∨ f = 63 := by omega
set_option maxHeartbeats 4000000 in
theorem specSign_any (f : Int) (w : World) :
    Calls Try.prog 46 #[.int .i64 f] w fun e w' => e = .returned (.int .i64 (signZ f)) ∧ w' = w := by
  by_cases h : 0 ≤ f ∧ f ≤ 63
  · have HS := hidS (fun W => l02Is_any f 0 63 W)
    have e : (decide (0 ≤ f) && decide (f ≤ 63)) = true := by simp [h]
    rw [e] at HS
    clear e
    rcases sixty f h with rfl | rfl | rfl | rfl | rfl | rfl | rfl | rfl | rfl | rfl | rfl | rfl | rfl | rfl | rfl | rfl | rfl | rfl | rfl | rfl | rfl | rfl | rfl | rfl | rfl | rfl | rfl | rfl | rfl | rfl | rfl | rfl | rfl | rfl | rfl | rfl | rfl | rfl | rfl | rfl | rfl | rfl | rfl | rfl | rfl | rfl | rfl | rfl | rfl | rfl | rfl | rfl | rfl | rfl | rfl | rfl | rfl | rfl | rfl | rfl | rfl | rfl | rfl | rfl <;>
    · clear h
      go_enter Try.func46, Try.ntmps46
      go_wp2_with fail
      refine (HS.out _).mono ?_
      rintro e w1 ⟨rfl, rfl⟩
      go_wp2
      go_ret
      exact ⟨rfl, rfl⟩
  · have HS := hidS (fun W => l02Is_any f 0 63 W)
    have e : (decide (0 ≤ f) && decide (f ≤ 63)) = false := by simp; omega
    rw [e] at HS
    have hz : signZ f = -1 := if_neg h
    rw [hz]
    clear e h hz
    go_enter Try.func46, Try.ntmps46
    go_wp2_with fail
    refine (HS.out _).mono ?_
    rintro e w1 ⟨rfl, rfl⟩
    go_wp2
    go_ret
    exact ⟨rfl, rfl⟩
set_option maxHeartbeats 4000000 in
theorem implSign_any (f : Int) (w : World) :
    Calls Try.prog 54 #[.int .i64 f] w fun e w' => e = .returned (.int .i64 (signZ f)) ∧ w' = w := by
  by_cases h : 0 ≤ f ∧ f ≤ 63
  · rcases sixty f h with rfl | rfl | rfl | rfl | rfl | rfl | rfl | rfl | rfl | rfl | rfl | rfl | rfl | rfl | rfl | rfl | rfl | rfl | rfl | rfl | rfl | rfl | rfl | rfl | rfl | rfl | rfl | rfl | rfl | rfl | rfl | rfl | rfl | rfl | rfl | rfl | rfl | rfl | rfl | rfl | rfl | rfl | rfl | rfl | rfl | rfl | rfl | rfl | rfl | rfl | rfl | rfl | rfl | rfl | rfl | rfl | rfl | rfl | rfl | rfl | rfl | rfl | rfl | rfl <;>
    · clear h
      go_enter Try.func54, Try.ntmps54
      go_wp2
      go_ret
      exact ⟨rfl, rfl⟩
  · have hz : signZ f = -1 := if_neg h
    rw [hz]
    by_cases h0 : f < 0
    · clear h hz
      go_enter Try.func54, Try.ntmps54
      go_wp2
      go_ret
      exact ⟨rfl, rfl⟩
    · have h1 : 63 < f := by omega
      clear h hz
      go_enter Try.func54, Try.ntmps54
      go_wp2
      go_ret
      exact ⟨rfl, rfl⟩
end Go.Proofs.Ytbhemimhmkgfiaa
end

section
namespace Go.Proofs.Ytbhemimhmkgfiaa
open Go.ChangeShapes Go.WideShapes Go.ChangeAt Go.RowKit
set_option linter.unusedVariables false
set_option maxRecDepth 100000

set_option maxHeartbeats 2000000 in
theorem l05Ack_any (s : Int) (b : Bool) (w : World) (h : stB s = true) :
    Calls Try.prog 63 #[.int .i64 s, .bool b] w fun e w' => e = .returned (.int .i64 (ackZ s b)) ∧ w' = w := by
  cases b <;> rcases states h with rfl | rfl | rfl | rfl | rfl | rfl | rfl | rfl | rfl <;>
  · clear h
    go_enter Try.func63, Try.ntmps63
    go_wp2
    go_ret
    exact ⟨rfl, rfl⟩
set_option maxHeartbeats 2000000 in
theorem l05Fin_any (s : Int) (w : World) (h : stB s = true) :
    Calls Try.prog 62 #[.int .i64 s] w fun e w' => e = .returned (.int .i64 (finZ s)) ∧ w' = w := by
  rcases states h with rfl | rfl | rfl | rfl | rfl | rfl | rfl | rfl | rfl <;>
  · clear h
    go_enter Try.func62, Try.ntmps62
    go_wp2
    go_ret
    exact ⟨rfl, rfl⟩
end Go.Proofs.Ytbhemimhmkgfiaa
end
