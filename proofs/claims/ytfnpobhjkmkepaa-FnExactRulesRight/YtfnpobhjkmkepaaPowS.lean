/- Proved here: spec.l08Pow answers a power of two, spec.l08Head an address without its last bits, and both leave memory alone (conditions: 0 to 32; an address). -/
import Derived.Test.YtfnpobhjkmkepaaRuleMath
import Derived.Test.YtfnpobhjkmkepaaWordsH
namespace Go.Proofs.Ytfnpobhjkmkepaa
open Go.ChangeShapes Go.WideShapes Go.ChangeAt Go.RowKit
set_option linter.unusedVariables false
set_option linter.unusedSimpArgs false

set_option maxHeartbeats 1000000 in
theorem l08Pow_any (n : Int) (h0 : 0 ≤ n) (h1 : n ≤ 32) (w : World) :
    Calls Try.prog 52 #[.int .i64 n] w fun e w' => e = .returned (.int .i64 (powN n)) ∧ w' = w := by
  go_enter Try.func52, Try.ntmps52
  go_wp2
  go_loop [0, 3] (fun a b => ∃ m : Int, a = .int .i64 m ∧ 0 ≤ m ∧ m ≤ n ∧ b = .int .i64 (powN (n - m))) (fun a _ => (intOf a).toNat)
  case atStart => exact ⟨n, rfl, h0, Int.le_refl _, by rw [Int.sub_self]; rfl⟩
  case round =>
    obtain ⟨m, rfl, hm0, hm1, rfl⟩ := hrel
    have hp := pow_pos' (n - m)
    have hl := pow_le (n := n - m) (by omega) (by omega)
    by_cases hlt : 0 < m
    · have hs := hidS (pow_step (n := n - m) (by omega))
      go_wp2
      go_round
      case rel => exact ⟨m - 1, rfl, by omega, by omega, by rw [show n - (m - 1) = n - m + 1 by omega, hs.out]⟩
      case measure => simp [intOf]; omega
    · have e : m = 0 := by omega
      subst e
      go_wp2
      go_ret
      exact ⟨rfl, rfl⟩
set_option maxHeartbeats 1000000 in
theorem l08Head_any (a b : Int) (ha : 0 ≤ a) (ha2 : a ≤ 4294967295) (h0 : 0 ≤ b) (h1 : b ≤ 32) (w : World) :
    Calls Try.prog 30 #[.int .i64 a, .int .i64 b] w fun e w' => e = .returned (.int .i64 (headN a b)) ∧ w' = w := by
  have hp := pow_pos' (32 - b)
  have hl := pow_le (n := 32 - b) (by omega) (by omega)
  have hd := div_bd ha hp
  have hh := head_bd (b := b) ha
  have hH : Hid (headN a b = a / powN (32 - b) * powN (32 - b)) := rfl
  go_enter Try.func30, Try.ntmps30
  go_wp2_with fail
  refine (l08Pow_any (32 - b) (by omega) (by omega) _).mono ?_
  rintro _ w1 ⟨rfl, rfl⟩
  have hm : 0 ≤ a / powN (32 - b) * powN (32 - b) ∧ a / powN (32 - b) * powN (32 - b) ≤ a := hh
  generalize powN (32 - b) = p at *
  go_wp2
  go_ret
  exact ⟨by rw [hH.out]; rfl, rfl⟩
end Go.Proofs.Ytfnpobhjkmkepaa
