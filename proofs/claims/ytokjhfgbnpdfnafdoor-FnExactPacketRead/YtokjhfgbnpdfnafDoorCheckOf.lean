/- Proved here: what CheckOf answers, of impl and of spec; all old memory stays (condition: a string is one). -/
import Derived.Test.YtokjhfgbnpdfnafDoorSumOf
namespace Go.Proofs.YtokjhfgbnpdfnafDoor
open Go.ChangeShapes Go.WideShapes Go.ChangeAt Go.RowKit
open Go.ChangeMaps (open_string shut_string)
set_option linter.unusedVariables false

theorem implCheckOf_any (s : ByteArray) (w : World) (hs : s.size ≤ maxLen) :
    Calls Tryd.prog 63 #[.string s] w fun e w' => e = .returned (.int .i64 (checkAns s)) ∧ Below w.heap.size w w' := by
  have hs' : s.size ≤ 2 ^ 63 - 1 := hs
  by_cases h1 : 8000 < s.size
  · have e : checkAns s = 0 := if_pos h1
    rw [e]
    go_enter Tryd.func63, Tryd.ntmps63
    go_wp2
    go_ret
    exact ⟨rfl, Below.refl _ _⟩
  · have e : checkAns s = 65535 - (sumAns s : Int) := if_neg h1
    rw [e]
    clear e
    have hl := sumAns_le s
    go_enter Tryd.func63, Tryd.ntmps63
    go_wp2_with fail
    refine (implSumOf_any s _ hs).mono ?_
    rintro e w1 ⟨rfl, hb⟩
    go_wp2
    go_ret
    exact ⟨rfl, hb⟩
theorem specCheckOf_any (s : ByteArray) (w : World) (hs : s.size ≤ maxLen) :
    Calls Tryd.prog 29 #[.string s] w fun e w' => e = .returned (.int .i64 (checkAns s)) ∧ w' = w := by
  have hs' : s.size ≤ 2 ^ 63 - 1 := hs
  by_cases h1 : 8000 < s.size
  · have e : checkAns s = 0 := if_pos h1
    rw [e]
    go_enter Tryd.func29, Tryd.ntmps29
    go_wp2
    go_ret
    exact ⟨rfl, rfl⟩
  · have e : checkAns s = 65535 - (sumAns s : Int) := if_neg h1
    rw [e]
    clear e
    have hl := sumAns_le s
    go_enter Tryd.func29, Tryd.ntmps29
    go_wp2_with fail
    refine (specSumOf_any s _ hs).mono ?_
    rintro e w1 ⟨rfl, rfl⟩
    go_wp2
    go_ret
    exact ⟨rfl, rfl⟩
end Go.Proofs.YtokjhfgbnpdfnafDoor
