/- Proved here: what CheckGood answers, of impl and of spec; all old memory stays (condition: a string is one). -/
import Derived.Test.YtafdcicdaeaehaaSumOf
namespace Go.Proofs.Ytafdcicdaeaehaa
open Go.ChangeShapes Go.WideShapes Go.ChangeAt Go.RowKit
open Go.ChangeMaps (open_string shut_string)
set_option linter.unusedVariables false

/-- what CheckGood is to answer -/
def goodAns (s : ByteArray) : Bool := (sumAns s : Int) == 65535
theorem goodAns_big {s : ByteArray} (h : 8000 < s.size) : goodAns s = false := by unfold goodAns sumAns; rw [if_pos h]; rfl
theorem implCheckGood_any (s : ByteArray) (w : World) (hs : s.size ≤ maxLen) :
    Calls Try.prog 23 #[.string s] w fun e w' => e = .returned (.bool (goodAns s)) ∧ Below w.heap.size w w' := by
  have hl := sumAns_le s
  go_enter Try.func23, Try.ntmps23
  go_wp2_with fail
  refine (implSumOf_any s _ hs).mono ?_
  rintro e w1 ⟨rfl, hb⟩
  go_wp2
  go_ret
  exact ⟨rfl, hb⟩
theorem specCheckGood_any (s : ByteArray) (w : World) (hs : s.size ≤ maxLen) :
    Calls Try.prog 24 #[.string s] w fun e w' => e = .returned (.bool (goodAns s)) ∧ w' = w := by
  have hs' : s.size ≤ 2 ^ 63 - 1 := hs
  have hl := sumAns_le s
  by_cases h1 : 8000 < s.size
  · have e := hidS (goodAns_big h1)
    go_enter Try.func24, Try.ntmps24
    go_wp2
    go_ret
    exact ⟨by rw [e.out]; rfl, rfl⟩
  · go_enter Try.func24, Try.ntmps24
    go_wp2_with (go_at_call 20; refine (specSumOf_any s _ hs).mono ?_; rintro e w1 ⟨rfl, rfl⟩)
    go_ret
    exact ⟨rfl, rfl⟩
end Go.Proofs.Ytafdcicdaeaehaa
