/- Proved here: spec.l05State answers whether a number is a state; memory stays (no conditions). · Proved here: impl.isState answers whether a number is a state; memory stays (no conditions). · Proved here: spec.LifeOf and impl.LifeOf answer as the plain function; all old memory stays (no conditions). -/
import Derived.Test.YtbhemimhmkgfiaaAll6
import Derived.Test.YtbhemimhmkgfiaaAll7
section
namespace Go.Proofs.Ytbhemimhmkgfiaa
open Go.ChangeShapes Go.WideShapes Go.ChangeAt Go.RowKit
set_option linter.unusedVariables false
set_option maxRecDepth 100000

theorem l05State_any (s : Int) (w : World) :
    Calls Try.prog 61 #[.int .i64 s] w fun e w' => e = .returned (.bool (stB s)) ∧ w' = w := by
  go_enter Try.func61, Try.ntmps61
  go_wp2_with fail
  refine (l02Is_any s 0 8 _).mono ?_
  rintro e w1 ⟨rfl, rfl⟩
  go_wp2
  go_ret
  exact ⟨rfl, rfl⟩
end Go.Proofs.Ytbhemimhmkgfiaa
end

section
namespace Go.Proofs.Ytbhemimhmkgfiaa
open Go.ChangeShapes Go.WideShapes Go.ChangeAt Go.RowKit
set_option linter.unusedVariables false
set_option maxRecDepth 100000

set_option maxHeartbeats 2000000 in
theorem isState_any (s : Int) (w : World) :
    Calls Try.prog 60 #[.int .i64 s] w fun e w' => e = .returned (.bool (stB s)) ∧ w' = w := by
  by_cases h0 : 0 ≤ s
  · by_cases h8 : s ≤ 8
    · have e : Hid (stB s = true) := hidS (stB_iff.2 ⟨h0, h8⟩)
      go_enter Try.func60, Try.ntmps60
      go_wp2
      go_ret
      exact ⟨by rw [e.out]; rfl, rfl⟩
    · have e : Hid (stB s = false) := by show _ = _; unfold stB; simp; omega
      go_enter Try.func60, Try.ntmps60
      go_wp2
      go_ret
      exact ⟨by rw [e.out]; rfl, rfl⟩
  · have e : Hid (stB s = false) := by show _ = _; unfold stB; simp; omega
    go_enter Try.func60, Try.ntmps60
    go_wp2
    go_ret
    exact ⟨by rw [e.out]; rfl, rfl⟩
end Go.Proofs.Ytbhemimhmkgfiaa
end

section
namespace Go.Proofs.Ytbhemimhmkgfiaa
open Go.ChangeShapes Go.WideShapes Go.ChangeAt Go.RowKit
set_option linter.unusedVariables false
set_option maxRecDepth 100000

set_option maxHeartbeats 2000000 in
theorem specLife_any (s : Int) (w : World) :
    Calls Try.prog 64 #[.int .i64 s] w fun e w' => e = .returned (.int .i64 (lifeZ s)) ∧ Below w.heap.size w w' := by
  have HS := hidS (fun W => l05State_any s W)
  cases h : stB s
  · rw [h] at HS
    rw [life_no h]
    clear h
    go_enter Try.func64, Try.ntmps64
    go_wp2_with fail
    refine (HS.out _).mono ?_
    rintro e w1 ⟨rfl, rfl⟩
    go_wp2
    go_ret
    exact ⟨rfl, Below.refl _ _⟩
  · rw [h] at HS
    rcases states h with rfl | rfl | rfl | rfl | rfl | rfl | rfl | rfl | rfl <;>
    · clear h
      go_enter Try.func64, Try.ntmps64
      go_wp2_with fail
      refine (HS.out _).mono ?_
      rintro e w1 ⟨rfl, rfl⟩
      go_wp2
      go_ret
      exact ⟨rfl, (Below.refl _ _).alloc (Nat.le_refl _) _⟩
set_option maxHeartbeats 2000000 in
theorem implLife_any (s : Int) (w : World) :
    Calls Try.prog 71 #[.int .i64 s] w fun e w' => e = .returned (.int .i64 (lifeZ s)) ∧ Below w.heap.size w w' := by
  have HS := hidS (fun W => isState_any s W)
  cases h : stB s
  · rw [h] at HS
    rw [life_no h]
    clear h
    go_enter Try.func71, Try.ntmps71
    go_wp2_with fail
    refine (HS.out _).mono ?_
    rintro e w1 ⟨rfl, rfl⟩
    go_wp2
    go_ret
    exact ⟨rfl, Below.refl _ _⟩
  · rw [h] at HS
    rcases states h with rfl | rfl | rfl | rfl | rfl | rfl | rfl | rfl | rfl <;>
    · clear h
      go_enter Try.func71, Try.ntmps71
      go_wp2_with fail
      refine (HS.out _).mono ?_
      rintro e w1 ⟨rfl, rfl⟩
      go_wp2
      go_ret
      exact ⟨rfl, (Below.refl _ _).alloc (Nat.le_refl _) _⟩
end Go.Proofs.Ytbhemimhmkgfiaa
end
