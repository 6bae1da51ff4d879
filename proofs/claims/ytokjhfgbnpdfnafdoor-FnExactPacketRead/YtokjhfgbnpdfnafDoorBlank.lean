/- Proved here: spec.l03Place answers the place of a check, spec.l03Blank a packet's text without both checks; memory stays (conditions: the text reaches behind the second check, at most 8000 bytes). -/
import Derived.Test.YtokjhfgbnpdfnafDoorAll1
namespace Go.Proofs.YtokjhfgbnpdfnafDoor
open Go.ChangeShapes Go.WideShapes Go.ChangeAt Go.RowKit
set_option linter.unusedVariables false

/-- the place of the check behind the head -/
def placeN (proto : Int) : Nat := if proto = 6 then 36 else if proto = 17 then 26 else 22
theorem l03Place_any (n : Int) (w : World) :
    Calls Tryd.prog 30 #[.int .i64 n] w fun e w' => e = .returned (.int .i64 (placeN n : Nat)) ∧ w' = w := by
  by_cases h6 : n = 6
  · subst h6
    go_enter Tryd.func30, Tryd.ntmps30
    go_wp2
    go_ret
    exact ⟨rfl, rfl⟩
  by_cases h17 : n = 17
  · subst h17
    go_enter Tryd.func30, Tryd.ntmps30
    go_wp2
    go_ret
    exact ⟨rfl, rfl⟩
  · have e : Hid (placeN n = 22) := by unfold placeN; rw [if_neg h6, if_neg h17]; rfl
    have h6' : (n == 6) = false := beq_eq_false_iff_ne.2 h6
    have h17' : (n == 17) = false := beq_eq_false_iff_ne.2 h17
    clear h6 h17
    go_enter Tryd.func30, Tryd.ntmps30
    go_wp2
    go_ret
    exact ⟨by rw [e.out]; rfl, rfl⟩

/-- a packet's text without both checks -/
def blankT (s : ByteArray) (k : Nat) : ByteArray := s.extract 0 10 ++ s.extract 12 k ++ s.extract (k + 2) s.size
theorem l03Blank_any (s : ByteArray) (n : Int) (w : World) (hk : placeN n + 2 ≤ s.size) (hs : s.size ≤ 8000) :
    Calls Tryd.prog 13 #[.string s, .int .i64 n] w fun e w' => e = .returned (.string (blankT s (placeN n))) ∧ Below w.heap.size w w' := by
  have hs' : (s.size : Int) ≤ 8000 := by omega
  have e1 : (s.extract 0 10).size ≤ 8000 := by simp; omega
  rcases (by unfold placeN; split; simp; split <;> simp : placeN n = 36 ∨ placeN n = 26 ∨ placeN n = 22) with hp | hp | hp
  all_goals
    have HE := hidS hp
    have hP := hidS (fun W => l03Place_any n W)
    rw [hp] at hk hP
    have hk' : (24 : Int) ≤ (s.size : Int) := by omega
    have hk1 : 10 ≤ s.size := by omega
    have hk2 := hk
    clear hp
    go_enter Tryd.func13, Tryd.ntmps13
    go_wp2_with fail
    refine (hP.out _).mono ?_
    rintro _ w1 ⟨rfl, rfl⟩
    clear hP
    go_wp2_with fail
    go_region
    go_wp2
    go_ret
    exact ⟨by rw [HE.out]; rfl, (Below.refl _ _).drew⟩
end Go.Proofs.YtokjhfgbnpdfnafDoor
