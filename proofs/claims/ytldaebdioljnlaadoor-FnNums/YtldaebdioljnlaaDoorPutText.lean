/- Proved here: what PutText answers: spec.PutText and impl.PutText return the length's bytes and the text behind them, or the empty text if it has more than 8000 bytes, and leave all old memory alone (no conditions but that a string is one). -/
import Derived.Test.YtldaebdioljnlaaDoorPutNum
import Derived.Test.YtldaebdioljnlaaDoorJoin
namespace Go.Proofs.YtldaebdioljnlaaDoor
open Go.ChangeShapes Go.WideShapes Go.ChangeAt Go.RowKit
open Go.ChangeMaps (open_string shut_string)
set_option linter.unusedVariables false

/-- what PutText is to answer -/
def textBytes (s : ByteArray) : ByteArray := if 8000 < s.size then ⟨#[]⟩ else (⟨(numBytes 10 (zig s.size)).toArray⟩ ++ s : ByteArray)

theorem numBytes_len (f u : Nat) : (numBytes f u).length ≤ f + 1 := by
  induction f generalizing u with
  | zero => simp [numBytes]
  | succ f ih => unfold numBytes; split <;> simp; exact ih _

theorem implPutText_any (s : ByteArray) (w : World) (hs : s.size ≤ maxLen) :
    Calls Tryd.prog 9 #[.string s] w fun e w' => e = .returned (.string (textBytes s)) ∧ Below w.heap.size w w' := by
  have hs' : s.size ≤ 2 ^ 63 - 1 := hs
  by_cases h : 8000 < s.size
  · have e : textBytes s = ⟨#[]⟩ := if_pos h
    rw [e]
    go_enter Tryd.func9, Tryd.ntmps9
    go_wp2
    go_ret
    exact ⟨rfl, Below.refl _ _⟩
  · have e : textBytes s = (⟨(numBytes 10 (zig s.size)).toArray⟩ ++ s : ByteArray) := if_neg h
    rw [e]
    clear e
    have hl := numBytes_len 10 (zig s.size)
    go_enter Tryd.func9, Tryd.ntmps9
    go_wp2_with fail
    refine (implPutNum_any _ _ (by omega) (by omega)).mono ?_
    rintro e w1 ⟨rfl, hb1⟩
    go_wp2_with fail
    refine (joinTexts_two ⟨(numBytes 10 (zig s.size)).toArray⟩ s w1.heap.size _ (by simp) (by simp) (by show (numBytes 10 (zig s.size)).toArray.size + s.size ≤ _; rw [List.size_toArray]; omega)).mono ?_
    rintro e w2 ⟨rfl, hb2⟩
    go_wp2
    go_ret
    exact ⟨rfl, hb1.trans (((Below.refl _ _).alloc hb1.size _).trans (hb2.mono (by have := hb1.size; simp; omega)))⟩

theorem specPutText_any (s : ByteArray) (w : World) (hs : s.size ≤ maxLen) :
    Calls Tryd.prog 10 #[.string s] w fun e w' => e = .returned (.string (textBytes s)) ∧ Below w.heap.size w w' := by
  have hs' : s.size ≤ 2 ^ 63 - 1 := hs
  by_cases h : 8000 < s.size
  · have e : textBytes s = ⟨#[]⟩ := if_pos h
    rw [e]
    go_enter Tryd.func10, Tryd.ntmps10
    go_wp2
    go_ret
    exact ⟨rfl, Below.refl _ _⟩
  · have e : textBytes s = (⟨(numBytes 10 (zig s.size)).toArray⟩ ++ s : ByteArray) := if_neg h
    rw [e]
    clear e
    have hl := numBytes_len 10 (zig s.size)
    go_enter Tryd.func10, Tryd.ntmps10
    go_wp2_with fail
    refine (specPutNum_any _ _ (by omega) (by omega)).mono ?_
    rintro e w1 ⟨rfl, hb1⟩
    go_wp2
    go_ret
    exact ⟨rfl, hb1⟩
end Go.Proofs.YtldaebdioljnlaaDoor
