/- Proved here: spec.StateName and impl.StateName answer as the plain function; all old memory stays (no conditions). -/
import Derived.Test.YtbhemimhmkgfiaaDoorTcpStS
import Derived.Test.YtbhemimhmkgfiaaDoorTcpStI
namespace Go.Proofs.YtbhemimhmkgfiaaDoor
open Go.ChangeShapes Go.WideShapes Go.ChangeAt Go.RowKit
set_option linter.unusedVariables false
set_option maxRecDepth 100000

set_option maxHeartbeats 2000000 in
theorem specName_any (s : Int) (w : World) :
    Calls Tryd.prog 27 #[.int .i64 s] w fun e w' => e = .returned (.string (nameZ s)) ∧ Below w.heap.size w w' := by
  have HS := hidS (fun W => l05State_any s W)
  cases h : stB s
  · rw [h] at HS
    rw [name_no h]
    clear h
    go_enter Tryd.func27, Tryd.ntmps27
    go_wp2_with fail
    refine (HS.out _).mono ?_
    rintro e w1 ⟨rfl, rfl⟩
    go_wp2
    go_ret
    exact ⟨rfl, Below.refl _ _⟩
  · rw [h] at HS
    rcases states h with rfl | rfl | rfl | rfl | rfl | rfl | rfl | rfl | rfl <;>
    · clear h
      go_enter Tryd.func27, Tryd.ntmps27
      go_wp2_with fail
      refine (HS.out _).mono ?_
      rintro e w1 ⟨rfl, rfl⟩
      go_wp2
      go_ret
      exact ⟨rfl, (Below.refl _ _).alloc (Nat.le_refl _) _⟩
set_option maxHeartbeats 2000000 in
theorem implName_any (s : Int) (w : World) :
    Calls Tryd.prog 30 #[.int .i64 s] w fun e w' => e = .returned (.string (nameZ s)) ∧ Below w.heap.size w w' := by
  have HS := hidS (fun W => isState_any s W)
  cases h : stB s
  · rw [h] at HS
    rw [name_no h]
    clear h
    go_enter Tryd.func30, Tryd.ntmps30
    go_wp2_with fail
    refine (HS.out _).mono ?_
    rintro e w1 ⟨rfl, rfl⟩
    go_wp2
    go_ret
    exact ⟨rfl, Below.refl _ _⟩
  · rw [h] at HS
    rcases states h with rfl | rfl | rfl | rfl | rfl | rfl | rfl | rfl | rfl <;>
    · clear h
      go_enter Tryd.func30, Tryd.ntmps30
      go_wp2_with fail
      refine (HS.out _).mono ?_
      rintro e w1 ⟨rfl, rfl⟩
      go_wp2
      go_ret
      exact ⟨rfl, (Below.refl _ _).alloc (Nat.le_refl _) _⟩
end Go.Proofs.YtbhemimhmkgfiaaDoor
