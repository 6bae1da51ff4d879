/- Proved here: spec.CrcMore and spec.Crc return the CRC that is defined as a plain function, and leave memory alone (no conditions but that a string is one). -/
import Derived.Test.YtldaebdioljnlaaCrcCore
import Derived.WalkKit
import Derived.WalkSpells
import Derived.ProofKit
import Derived.OpenShut
import Derived.ShutString
import Derived.Handy
import Derived.Below
import Derived.Laws.BitsAllLaws
namespace Go.Proofs.Ytldaebdioljnlaa
open Go.ChangeShapes Go.WideShapes Go.ChangeAt Go.RowKit
open Go.ChangeMaps (open_string shut_string)
set_option linter.unusedVariables false

theorem specCrcMore_any (r : Int) (s : ByteArray) (w : World) (hs : s.size ≤ maxLen) :
    Calls Try.prog 11 #[.int .i64 r, .string s] w fun e w' => e = .returned (.int .i64 (crcAns r s)) ∧ w' = w := by
  have hs' : s.size ≤ 2 ^ 63 - 1 := hs
  by_cases h1 : 8000 < s.size
  · have e : crcAns r s = 0 := if_pos (Or.inl h1)
    rw [e]
    go_enter Try.func11, Try.ntmps11
    go_wp2
    go_ret
    exact ⟨rfl, rfl⟩
  by_cases h2 : r < 0
  · have e : crcAns r s = 0 := if_pos (Or.inr (Or.inl h2))
    rw [e]
    go_enter Try.func11, Try.ntmps11
    go_wp2
    go_ret
    exact ⟨rfl, rfl⟩
  by_cases h3 : 4294967295 < r
  · have e : crcAns r s = 0 := if_pos (Or.inr (Or.inr h3))
    rw [e]
    go_enter Try.func11, Try.ntmps11
    go_wp2
    go_ret
    exact ⟨rfl, rfl⟩
  · have e : crcAns r s = (crcOf r.toNat s.data.toList : Nat) := if_neg (by omega)
    rw [e]
    clear e
    obtain ⟨n, rfl⟩ : ∃ n : Nat, r = n := ⟨r.toNat, by omega⟩
    rw [Int.toNat_natCast]
    go_enter Try.func11, Try.ntmps11
    go_wp2_with (go_at_call 20; refine (l01Crc_any _ _ _ (by omega) hs).mono ?_; rintro e w' ⟨rfl, rfl⟩)
    go_ret
    exact ⟨rfl, rfl⟩

theorem specCrc_any (s : ByteArray) (w : World) (hs : s.size ≤ maxLen) :
    Calls Try.prog 23 #[.string s] w fun e w' => e = .returned (.int .i64 (crcAns 0 s)) ∧ w' = w := by
  have hs' : s.size ≤ 2 ^ 63 - 1 := hs
  by_cases h1 : 8000 < s.size
  · have e : crcAns 0 s = 0 := if_pos (Or.inl h1)
    rw [e]
    go_enter Try.func23, Try.ntmps23
    go_wp2
    go_ret
    exact ⟨rfl, rfl⟩
  · have e : crcAns 0 s = (crcOf 0 s.data.toList : Nat) := if_neg (by omega)
    rw [e]
    clear e
    go_enter Try.func23, Try.ntmps23
    go_wp2_with (go_at_call 20; refine (l01Crc_any 0 _ _ (by omega) hs).mono ?_; rintro e w' ⟨rfl, rfl⟩)
    go_ret
    exact ⟨rfl, rfl⟩

end Go.Proofs.Ytldaebdioljnlaa
