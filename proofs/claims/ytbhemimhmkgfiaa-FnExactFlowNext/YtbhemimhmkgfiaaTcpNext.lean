/- Proved here: spec.NextState answers the next state; memory stays (no conditions). -/
import Derived.Test.YtbhemimhmkgfiaaAll23
namespace Go.Proofs.Ytbhemimhmkgfiaa
open Go.ChangeShapes Go.WideShapes Go.ChangeAt Go.RowKit
set_option linter.unusedVariables false
set_option maxRecDepth 100000

set_option maxHeartbeats 4000000 in
theorem specNext_any (s : Int) (b : Bool) (g : Int) (w : World) :
    Calls Try.prog 45 #[.int .i64 s, .bool b, .int .i64 g] w fun e w' => e = .returned (.int .i64 (nextZ s b g)) ∧ w' = w := by
  have HS := hidS (fun W => l05State_any s W)
  cases h : stB s
  · rw [h] at HS
    rw [next_no b g h]
    clear h
    go_enter Try.func45, Try.ntmps45
    go_wp2_with (go_at_call 61; refine (HS.out _).mono ?_; rintro e w1 ⟨rfl, rfl⟩)
    go_ret
    exact ⟨rfl, rfl⟩
  · rw [h] at HS
    rw [next_at b g h]
    have HI := hidS (fun W => l02Is_any g 0 5 W)
    by_cases hg : 0 ≤ g ∧ g ≤ 5
    · have e : (decide (0 ≤ g) && decide (g ≤ 5)) = true := by simp [hg]
      rw [e] at HI
      clear e
      have HA := hidS (fun W => l05Ack_any s b W h)
      have HF := hidS (fun W => l05Fin_any s W h)
      rcases (by omega : g = 0 ∨ g = 1 ∨ g = 2 ∨ g = 3 ∨ g = 4 ∨ g = 5) with rfl | rfl | rfl | rfl | rfl | rfl
      · clear h hg
        go_enter Try.func45, Try.ntmps45
        go_wp2_with (first | (go_at_call 61; refine (HS.out _).mono ?_; rintro e w1 ⟨rfl, rfl⟩) | (go_at_call 19; refine (HI.out _).mono ?_; rintro e w1 ⟨rfl, rfl⟩))
        go_ret
        exact ⟨rfl, rfl⟩
      · cases b <;> rcases states h with rfl | rfl | rfl | rfl | rfl | rfl | rfl | rfl | rfl <;>
        · clear h hg HA HF
          go_enter Try.func45, Try.ntmps45
          go_wp2_with (first | (go_at_call 61; refine (HS.out _).mono ?_; rintro e w1 ⟨rfl, rfl⟩) | (go_at_call 19; refine (HI.out _).mono ?_; rintro e w1 ⟨rfl, rfl⟩))
          go_ret
          exact ⟨rfl, rfl⟩
      · cases b <;> rcases states h with rfl | rfl | rfl | rfl | rfl | rfl | rfl | rfl | rfl <;>
        · clear h hg HA HF
          go_enter Try.func45, Try.ntmps45
          go_wp2_with (first | (go_at_call 61; refine (HS.out _).mono ?_; rintro e w1 ⟨rfl, rfl⟩) | (go_at_call 19; refine (HI.out _).mono ?_; rintro e w1 ⟨rfl, rfl⟩))
          go_ret
          exact ⟨rfl, rfl⟩
      · clear h hg
        go_enter Try.func45, Try.ntmps45
        go_wp2_with (first | (go_at_call 61; refine (HS.out _).mono ?_; rintro e w1 ⟨rfl, rfl⟩) | (go_at_call 19; refine (HI.out _).mono ?_; rintro e w1 ⟨rfl, rfl⟩) | (go_at_call 62; refine (HF.out _).mono ?_; rintro e w1 ⟨rfl, rfl⟩))
        go_ret
        exact ⟨rfl, rfl⟩
      · clear h hg
        go_enter Try.func45, Try.ntmps45
        go_wp2_with (first | (go_at_call 61; refine (HS.out _).mono ?_; rintro e w1 ⟨rfl, rfl⟩) | (go_at_call 19; refine (HI.out _).mono ?_; rintro e w1 ⟨rfl, rfl⟩) | (go_at_call 63; refine (HA.out _).mono ?_; rintro e w1 ⟨rfl, rfl⟩))
        go_ret
        exact ⟨rfl, rfl⟩
      · rcases states h with rfl | rfl | rfl | rfl | rfl | rfl | rfl | rfl | rfl <;>
        · clear h hg HA HF
          go_enter Try.func45, Try.ntmps45
          go_wp2_with (first | (go_at_call 61; refine (HS.out _).mono ?_; rintro e w1 ⟨rfl, rfl⟩) | (go_at_call 19; refine (HI.out _).mono ?_; rintro e w1 ⟨rfl, rfl⟩))
          go_ret
          exact ⟨rfl, rfl⟩
    · have e : (decide (0 ≤ g) && decide (g ≤ 5)) = false := by simp; omega
      rw [e] at HI
      have hz : Hid ((if g = 5 then rstZ s else if g = 1 then synZ s b else if g = 2 then bothZ s b else if g = 3 then finZ s else if g = 4 then ackZ s b else -1) = -1) := by
        show _ = _
        iterate 5 (rw [if_neg (by omega)])
      rw [hz.out]
      clear e h hg
      go_enter Try.func45, Try.ntmps45
      go_wp2_with (first | (go_at_call 61; refine (HS.out _).mono ?_; rintro e w1 ⟨rfl, rfl⟩) | (go_at_call 19; refine (HI.out _).mono ?_; rintro e w1 ⟨rfl, rfl⟩))
      go_ret
      exact ⟨rfl, rfl⟩
end Go.Proofs.Ytbhemimhmkgfiaa
