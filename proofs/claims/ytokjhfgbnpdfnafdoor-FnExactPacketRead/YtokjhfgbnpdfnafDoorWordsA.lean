/- Proved here: spec.l02Fold and impl.foldSum answer a sum folded into a word, and leave memory alone (condition: it is at most 2^62). -/
import Derived.Test.YtokjhfgbnpdfnafDoorAll0
namespace Go.Proofs.YtokjhfgbnpdfnafDoor
open Go.ChangeShapes Go.WideShapes Go.ChangeAt Go.RowKit
open Go.ChangeMaps (open_string shut_string)
set_option linter.unusedVariables false

theorem l02Fold_any (n : Nat) (w : World) (hn : n ≤ 4611686018427387904) :
    Calls Tryd.prog 58 #[.int .i64 n] w fun e w' => e = .returned (.int .i64 (foldN n : Nat)) ∧ w' = w := by
  go_enter Tryd.func58, Tryd.ntmps58
  go_wp2
  go_loop [0] (fun v => ∃ x : Nat, v = .int .i64 x ∧ (x : Int) ≤ 4611686018427387904 ∧ Hid (foldN x = foldN n)) (fun v => (intOf v).toNat)
  case atStart => exact ⟨n, rfl, by omega, rfl⟩
  case round =>
    obtain ⟨x, rfl, hx, hX⟩ := hrel
    by_cases h : 65535 < x
    · have hX' : Hid (foldN (x % 65536 + x / 65536) = foldN n) := by rw [foldN_step h]; exact hX
      clear hX
      go_wp2
      go_round
      case rel => exact ⟨x % 65536 + x / 65536, by go_num, by omega, hX'⟩
      case measure => simp [intOf]; omega
    · have hE : Hid (x = foldN n) := by rw [← hX.out, foldN_word (by omega)]; rfl
      clear hX
      go_wp2
      go_ret
      exact ⟨ret_intS (by rw [← hE.out]), rfl⟩
theorem foldSum_any (n : Nat) (w : World) (hn : n ≤ 4611686018427387904) :
    Calls Tryd.prog 79 #[.int .i64 n] w fun e w' => e = .returned (.int .i64 (foldN n : Nat)) ∧ w' = w := by
  go_enter Tryd.func79, Tryd.ntmps79
  go_wp2
  go_loop [0] (fun v => ∃ x : Nat, v = .int .i64 x ∧ (x : Int) ≤ 4611686018427387904 ∧ Hid (foldN x = foldN n)) (fun v => (intOf v).toNat)
  case atStart => exact ⟨n, rfl, by omega, rfl⟩
  case round =>
    obtain ⟨x, rfl, hx, hX⟩ := hrel
    by_cases h : 65535 < x
    · have hX' : Hid (foldN (x % 65536 + x / 65536) = foldN n) := by rw [foldN_step h]; exact hX
      have hb := i64_low16 x (by omega)
      clear hX
      go_wp2
      go_round
      case rel => exact ⟨x % 65536 + x / 65536, by go_num, by omega, hX'⟩
      case measure => simp [intOf]; omega
    · have hE : Hid (x = foldN n) := by rw [← hX.out, foldN_word (by omega)]; rfl
      clear hX
      go_wp2
      go_ret
      exact ⟨ret_intS (by rw [← hE.out]), rfl⟩
end Go.Proofs.YtokjhfgbnpdfnafDoor
