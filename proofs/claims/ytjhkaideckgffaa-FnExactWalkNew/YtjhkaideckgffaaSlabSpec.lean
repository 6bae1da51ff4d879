/- Proved here: spec.l06Key, spec.l02Time, spec.l06End and spec.l06Next answer as the plain functions; all old memory stays (condition: few chains, few slots). -/
import Derived.Test.YtjhkaideckgffaaSlabMath
import Derived.Test.YtjhkaideckgffaaL02Is
namespace Go.Proofs.Ytjhkaideckgffaa
open Go.ChangeShapes Go.WideShapes Go.ChangeAt Go.RowKit
set_option linter.unusedVariables false
set_option linter.unusedSimpArgs false
set_option maxRecDepth 100000

def keyB (n : Int) : Bool := decide (0 ≤ n) && decide (n ≤ 999)
def timeB (n : Int) : Bool := decide (0 ≤ n) && decide (n ≤ 1000000)
/-- the end of a chain, of nH -/
def endB (nH : Nat) (n : Int) : Bool := decide (n < 0) && decide (-(nH : Int) ≤ n)
def nextB (nS nH : Nat) (n : Int) : Bool := endB nH n || (decide (0 ≤ n) && decide (n ≤ (nS : Int) - 1))
theorem l06Key_any (n : Int) (w : World) :
    Calls Try.prog 36 #[.int .i64 n] w fun e w' => e = .returned (.bool (keyB n)) ∧ w' = w := by
  go_enter Try.func36, Try.ntmps36
  go_wp2_with fail
  refine (l02Is_any n 0 999 _).mono ?_
  rintro e w1 ⟨rfl, rfl⟩
  go_wp2
  go_ret
  exact ⟨rfl, rfl⟩
theorem l02Time_any (n : Int) (w : World) :
    Calls Try.prog 53 #[.int .i64 n] w fun e w' => e = .returned (.bool (timeB n)) ∧ w' = w := by
  go_enter Try.func53, Try.ntmps53
  go_wp2_with fail
  refine (l02Is_any n 0 1000000 _).mono ?_
  rintro e w1 ⟨rfl, rfl⟩
  go_wp2
  go_ret
  exact ⟨rfl, rfl⟩
set_option maxHeartbeats 1000000 in
theorem l06End_any (aS aH : Option Addr) (nS cS nH cH : Nat) (n : Int) (w : World) (hH : nH ≤ 1048576) :
    Calls Try.prog 69 #[.agg #[.slice aS nS cS, .slice aH nH cH], .int .i64 n] w fun e w' => e = .returned (.bool (endB nH n)) ∧ Below w.heap.size w w' := by
  have HB := fun o => hidS ((Below.refl w.heap.size w).alloc (Nat.le_refl _) o)
  by_cases h0 : n < 0
  · by_cases h1 : -(nH : Int) ≤ n
    · have e : Hid (endB nH n = true) := by show _ = _; unfold endB; simp [h0, h1]
      go_enter Try.func69, Try.ntmps69
      go_wp2
      go_ret
      exact ⟨by rw [e.out]; rfl, (HB _).out⟩
    · have e : Hid (endB nH n = false) := by show _ = _; unfold endB; simp; omega
      go_enter Try.func69, Try.ntmps69
      go_wp2
      go_ret
      exact ⟨by rw [e.out]; rfl, (HB _).out⟩
  · have e : Hid (endB nH n = false) := by show _ = _; unfold endB; simp; omega
    go_enter Try.func69, Try.ntmps69
    go_wp2
    go_ret
    exact ⟨by rw [e.out]; rfl, (HB _).out⟩
end Go.Proofs.Ytjhkaideckgffaa
