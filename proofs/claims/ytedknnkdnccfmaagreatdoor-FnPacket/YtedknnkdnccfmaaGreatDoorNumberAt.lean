/- Proved here: impl.numberAt answers the number of so many bytes at a place, those behind the text's end as 0, and changes nothing; impl.behindOf answers what stands behind so many bytes, all old memory stays (conditions: nothing is too great). -/
import Derived.Test.YtedknnkdnccfmaaGreatDoorAll15
import Derived.Test.YtedknnkdnccfmaaGreatDoorWords
import Derived.Test.YtedknnkdnccfmaaGreatDoorClone
namespace Go.Proofs.YtedknnkdnccfmaaGreatDoor
open Go.ChangeShapes Go.WideShapes Go.ChangeAt Go.RowKit
open Go.ChangeMaps (open_string shut_string)
set_option linter.unusedVariables false
set_option maxRecDepth 100000

/-- the number of so many bytes -/
def numN (s : ByteArray) (k : Nat) : Nat → Nat
  | 0 => 0
  | i + 1 => 256 * numN s k i + byteN s (k + i)
theorem numN_lt (s : ByteArray) (k : Nat) : ∀ i, numN s k i < 256 ^ i
  | 0 => by simp [numN]
  | i + 1 => by
    have h1 := numN_lt s k i
    have h2 := byteN_lt s (k + i)
    have e : (256 : Nat) ^ (i + 1) = 256 * 256 ^ i := by rw [Nat.pow_succ, Nat.mul_comm]
    rw [e]; unfold numN; omega
theorem numN_small (s : ByteArray) (k i : Nat) (h : i ≤ 3) : numN s k i ≤ 16777215 := by
  have h1 := numN_lt s k i
  have : (256 : Nat) ^ i ≤ 256 ^ 3 := Nat.pow_le_pow_right (by omega) h
  omega
theorem byteN_out {s : ByteArray} {k : Nat} (h : ¬ k < s.size) : byteN s k = 0 := by
  unfold byteN
  have h' : ¬ k < s.data.size := h
  rw [Array.getD, dif_neg h']
  rfl
theorem i64_join (a b : Nat) (ha : a ≤ 16777215) (hb : b < 256) : bits BinOp.or IntKind.i64 ((a : Int) * 256) (b : Int) = ((256 * a + b : Nat) : Int) := by
  have := i64_or_nat (a * 256) b (by omega) (by omega)
  rw [nat_join 8 (a * 256) b (by omega) (by omega)] at this
  rw [show ((a : Int) * 256) = ((a * 256 : Nat) : Int) from by omega, this]
  omega

set_option maxHeartbeats 1000000 in
theorem numberAt_x (s : ByteArray) (k m : Nat) (w : World) (hk : k ≤ 1000) (hm : m ≤ 4) (hs : s.size ≤ 100000) :
    Calls Tryz.prog 117 #[.string s, .int .i64 (k : Int), .int .i64 (m : Int)] w fun e w' => e = .returned (.int .i64 (numN s k m : Nat)) ∧ w' = w := by
  go_enter Tryz.func117, Tryz.ntmps117
  go_wp2
  go_loop [7, 10] (fun v i => ∃ j x : Nat, j ≤ m ∧ i = .int .i64 j ∧ v = .int .i64 x ∧ Hid (x = numN s k j)) (fun _ i => m - (intOf i).toNat)
  case atStart => exact ⟨0, 0, by omega, rfl, rfl, rfl⟩
  case round =>
    obtain ⟨j, x, hj, rfl, rfl, hX⟩ := hrel
    by_cases h : j < m
    · have h' : (j : Int) < (m : Int) := by omega
      have hx : x ≤ 16777215 := by rw [hX.out]; exact numN_small s k j (by omega)
      by_cases hin : k + j < s.size
      · have hin' : (k : Int) + (j : Int) < (s.size : Int) := by omega
        have hb : s[k + j].toNat < 256 := s[k + j].toNat_lt
        have hE : Hid (256 * x + s[k + j].toNat = numN s k (j + 1)) := by show _ = 256 * numN s k j + byteN s (k + j); rw [hX.out, byteN_get hin]
        have hor := hidS (i64_join x s[k + j].toNat hx hb)
        clear hX
        go_wp2
        go_round
        case rel => exact ⟨j + 1, 256 * x + s[k + j].toNat, by omega, by go_num, by rw [← hor.out], hE⟩
        case measure => simp [intOf]; omega
      · have hin' : ¬ (k : Int) + (j : Int) < (s.size : Int) := by omega
        have hE : Hid (x * 256 = numN s k (j + 1)) := by show _ = 256 * numN s k j + byteN s (k + j); rw [hX.out, byteN_out hin]; omega
        clear hX
        go_wp2
        go_round
        case rel => exact ⟨j + 1, x * 256, by omega, by go_num, by go_num, hE⟩
        case measure => simp [intOf]; omega
    · have h' : ¬ (j : Int) < (m : Int) := by omega
      obtain rfl : j = m := by omega
      clear h
      go_wp2
      go_ret
      exact ⟨by rw [hX.out]; rfl, rfl⟩

theorem behindOf_x (s : ByteArray) (k : Nat) (w : World) (hk : k ≤ 1000) (hs : s.size ≤ 100000) :
    Calls Tryz.prog 118 #[.string s, .int .i64 (k : Int)] w fun e w' => e = .returned (.string (s.extract (min k s.size) s.size)) ∧ Below w.heap.size w w' := by
  have hz : (s.extract (min k s.size) s.size).size ≤ 1099511627776 := by rw [ByteArray.size_extract]; omega
  by_cases h : k ≤ s.size
  · have h' : (k : Int) ≤ (s.size : Int) := by omega
    rw [Nat.min_eq_left h] at hz ⊢
    go_enter Tryz.func118, Tryz.ntmps118
    go_wp2_with fail
    refine (clone_any _ _ hz).mono ?_
    rintro _ w1 ⟨rfl, hb1⟩
    go_wp2_with fail
    go_ret
    exact ⟨rfl, hb1⟩
  · have h' : ¬ (k : Int) ≤ (s.size : Int) := by omega
    have h2 : (s.size : Int) ≤ (k : Int) := by omega
    rw [Nat.min_eq_right (by omega)]
    have e : s.extract s.size s.size = ByteArray.empty := by simp
    rw [e]
    clear e hz
    go_enter Tryz.func118, Tryz.ntmps118
    go_wp2_with fail
    refine (clone_any _ _ (by decide)).mono ?_
    rintro _ w1 ⟨rfl, hb1⟩
    go_wp2_with fail
    go_ret
    exact ⟨rfl, hb1⟩
end Go.Proofs.YtedknnkdnccfmaaGreatDoor
