/- Proved here: what the CRC functions answer: impl.crcByte, impl.CrcMore, impl.Crc and spec.l01Crc return the CRC that is defined below as a plain function on numbers, and leave memory alone (no conditions but that a string is one). -/
import Derived.Test.YtokjhfgbnpdfnahDoorRows
import Derived.WalkKit
import Derived.WalkSpells
import Derived.ProofKit
import Derived.OpenShut
import Derived.ShutString
import Derived.Handy
import Derived.Below
import Derived.Laws.BitsAllLaws
namespace Go.Proofs.YtokjhfgbnpdfnahDoor
open Go.ChangeShapes Go.WideShapes Go.ChangeAt Go.RowKit
open Go.ChangeMaps (open_string shut_string)
set_option linter.unusedVariables false

def crcBit (r : Nat) : Nat := if r % 2 = 1 then (r / 2) ^^^ 3988292384 else r / 2
def crcBits : Nat → Nat → Nat
  | 0, r => r
  | n + 1, r => crcBit (crcBits n r)
def crcB (r c : Nat) : Nat := crcBits 8 (r ^^^ c)
theorem crcBit_lt {r : Nat} (h : r < 4294967296) : crcBit r < 4294967296 := by
  unfold crcBit
  split
  · exact Nat.xor_lt_two_pow (n := 32) (by omega) (by omega)
  · omega
theorem crcBits_lt (n : Nat) {r : Nat} (h : r < 4294967296) : crcBits n r < 4294967296 := by
  induction n with
  | zero => exact h
  | succ n ih => exact crcBit_lt ih

def crcRun (r : Nat) (l : List UInt8) : Nat := l.foldl (fun x c => crcB x c.toNat) r
theorem crcB_lt {r c : Nat} (h : r < 4294967296) (hc : c < 256) : crcB r c < 4294967296 := crcBits_lt 8 (Nat.xor_lt_two_pow (n := 32) (by omega) (by omega))
theorem crcRun_lt (l : List UInt8) {r : Nat} (h : r < 4294967296) : crcRun r l < 4294967296 := by
  unfold crcRun
  induction l generalizing r with
  | nil => exact h
  | cons c l ih => exact ih (crcB_lt h (by have := c.toNat_lt; omega))
theorem crcRun_snoc (l : List UInt8) (c : UInt8) (r : Nat) : crcRun r (l ++ [c]) = crcB (crcRun r l) c.toNat := by simp [crcRun]
/-- the CRC that goes on from crc -/
def crcOf (crc : Nat) (l : List UInt8) : Nat := crcRun (crc ^^^ 4294967295) l ^^^ 4294967295
theorem crcOf_lt (crc : Nat) (l : List UInt8) (h : crc < 4294967296) : crcOf crc l < 4294967296 :=
  Nat.xor_lt_two_pow (n := 32) (crcRun_lt l (Nat.xor_lt_two_pow (n := 32) (by omega) (by omega))) (by omega)

theorem take_snoc (s : ByteArray) (k : Nat) (h : k < s.size) : s.data.toList.take (k + 1) = s.data.toList.take k ++ [s[k]] := by
  rw [List.take_succ_eq_append_getElem (by simpa using h)]; rfl
theorem take_all (s : ByteArray) (k : Nat) (h : ¬ k < s.size) : s.data.toList.take k = s.data.toList := List.take_of_length_le (by simp; omega)

theorem bit_yes {x : Nat} (hx : x < 4294967296) (h : (bits BinOp.and IntKind.u32 (x : Int) 1 == 1) = true) : bits BinOp.xor IntKind.u32 ((x : Int) / 2) 3988292384 = ((crcBit x : Nat) : Int) := by
  have e1 : bits BinOp.and IntKind.u32 (x : Int) ((1 : Nat) : Int) = ((x &&& 1 : Nat) : Int) := u32_and_nat x 1 hx (by omega)
  rw [show ((1 : Nat) : Int) = 1 from rfl] at e1
  rw [e1, nat_mask1] at h
  have h' : x % 2 = 1 := by simp at h; omega
  have e2 : bits BinOp.xor IntKind.u32 ((x / 2 : Nat) : Int) ((3988292384 : Nat) : Int) = ((x / 2 ^^^ 3988292384 : Nat) : Int) := u32_xor_nat _ _ (by omega) (by omega)
  have e3 : ((x : Int) / 2) = ((x / 2 : Nat) : Int) := by omega
  rw [e3]
  unfold crcBit
  rw [if_pos h']
  exact e2
theorem bit_no {x : Nat} (hx : x < 4294967296) (h : (bits BinOp.and IntKind.u32 (x : Int) 1 == 1) = false) : (x : Int) / 2 = ((crcBit x : Nat) : Int) := by
  have e1 : bits BinOp.and IntKind.u32 (x : Int) ((1 : Nat) : Int) = ((x &&& 1 : Nat) : Int) := u32_and_nat x 1 hx (by omega)
  rw [show ((1 : Nat) : Int) = 1 from rfl] at e1
  rw [e1, nat_mask1] at h
  have h' : ¬ x % 2 = 1 := by simp at h; omega
  unfold crcBit
  rw [if_neg h']
  omega
theorem ones_u32 {r : Nat} (h : r < 4294967296) : bits BinOp.xor IntKind.u32 (r : Int) 4294967295 = ((r ^^^ 4294967295 : Nat) : Int) := u32_xor_nat r 4294967295 h (by omega)
theorem ones_u32' {r : Nat} (h : r < 4294967296) : bits BinOp.xor IntKind.u32 IntKind.u32.max (r : Int) = ((r ^^^ 4294967295 : Nat) : Int) := by
  have : bits BinOp.xor IntKind.u32 ((4294967295 : Nat) : Int) (r : Int) = ((4294967295 ^^^ r : Nat) : Int) := u32_xor_nat 4294967295 r (by omega) h
  rw [Nat.xor_comm] at this
  exact this
theorem w64_nat {n : Nat} (h : n < 4294967296) : wrap64 (n : Int) = n := by unfold wrap64; omega
theorem ret_int {k : IntKind} {a b : Int} (h : a = b) : Ending.returned (.int k a) = .returned (.int k b) := by rw [h]
theorem val_int {k : IntKind} {a b : Int} (h : a = b) : Value.int k a = .int k b := by rw [h]

set_option maxHeartbeats 400000 in
theorem crcByte_any (r c : Nat) (w : World) (hr : r < 4294967296) (hc : c < 256) :
    Calls Tryd.prog 43 #[.int .u32 r, .int .u8 c] w fun e w' => e = .returned (.int .u32 (crcB r c : Nat)) ∧ w' = w := by
  go_enter Tryd.func43, Tryd.ntmps43
  go_wp2
  go_loop [0, 10] (fun v i => ∃ k x : Nat, k ≤ 8 ∧ i = .int .i64 k ∧ x < 4294967296 ∧ v = .int .u32 x ∧ Hid (x = crcBits k (r ^^^ c))) (fun _ i => 8 - (intOf i).toNat)
  case atStart => exact ⟨0, r ^^^ c, by omega, rfl, Nat.xor_lt_two_pow (n := 32) (by omega) (by omega), by rw [u32_xor_nat _ _ hr (by omega)], rfl⟩
  case round =>
    obtain ⟨k, x, hk, rfl, hx, rfl, hX⟩ := hrel
    have hX' : Hid (crcBit x = crcBits (k + 1) (r ^^^ c)) := by rw [hX.out]; rfl
    have hlt' := crcBit_lt hx
    by_cases hlt : k < 8
    · cases hb : (bits BinOp.and IntKind.u32 (x : Int) 1 == 1)
      · have e := val_int (k := .u32) (bit_no hx hb)
        have E : Hid (Value.int .u32 ((x : Int) / 2) = .int .u32 ((crcBit x : Nat) : Int)) := e
        clear e
        go_wp2
        go_round
        case rel => exact ⟨k + 1, crcBit x, by omega, by go_num, hlt', E.out, hX'⟩
        case measure => simp [intOf]; omega
      · have e := val_int (k := .u32) (bit_yes hx hb)
        have E : Hid (Value.int .u32 (bits BinOp.xor IntKind.u32 ((x : Int) / 2) 3988292384) = .int .u32 ((crcBit x : Nat) : Int)) := e
        clear e
        go_wp2
        go_round
        case rel => exact ⟨k + 1, crcBit x, by omega, by go_num, hlt', E.out, hX'⟩
        case measure => simp [intOf]; omega
    · have hk8 : k = 8 := by omega
      have hE : Hid (x = crcB r c) := by rw [hX.out, hk8]; rfl
      clear hX hX'
      go_wp2
      go_ret
      exact ⟨ret_int (by rw [hE.out]), rfl⟩

set_option maxHeartbeats 1000000 in
theorem l01Crc_any (r : Nat) (s : ByteArray) (w : World) (hr : r < 4294967296) (hs : s.size ≤ maxLen) :
    Calls Tryd.prog 42 #[.int .i64 r, .string s] w fun e w' => e = .returned (.int .i64 (crcOf r s.data.toList : Nat)) ∧ w' = w := by
  unfold maxLen at hs
  go_enter Tryd.func42, Tryd.ntmps42
  go_wp2
  go_loop [5, 6] (fun v i => ∃ k x : Nat, k ≤ s.size ∧ i = .int .i64 k ∧ x < 4294967296 ∧ v = .int .u32 x ∧ Hid (x = crcRun (r ^^^ 4294967295) (s.data.toList.take k))) (fun _ i => s.size - (intOf i).toNat)
  case atStart => exact ⟨0, r ^^^ 4294967295, by omega, rfl, Nat.xor_lt_two_pow (n := 32) (by omega) (by omega), by rw [ones_u32 hr], by simp [crcRun, Hid]⟩
  case round =>
    obtain ⟨k, x, hk, rfl, hx, rfl, hX⟩ := hrel
    by_cases hlt : k < s.size
    · have hc : s[k].toNat < 256 := s[k].toNat_lt
      have hX2 : Hid (crcB x s[k].toNat = crcRun (r ^^^ 4294967295) (s.data.toList.take (k + 1))) := by rw [take_snoc s k hlt, crcRun_snoc, hX.out]; rfl
      have hb2 := crcB_lt hx hc
      clear hX
      go_wp2
      go_loop [5, 7] (fun v i => ∃ j y : Nat, j ≤ 8 ∧ i = .int .i64 j ∧ y < 4294967296 ∧ v = .int .u32 y ∧ Hid (y = crcBits j (x ^^^ s[k].toNat))) (fun _ i => 8 - (intOf i).toNat)
      case atStart => exact ⟨0, x ^^^ s[k].toNat, by omega, rfl, Nat.xor_lt_two_pow (n := 32) (by omega) (by omega), by rw [u32_xor_nat _ _ hx (by omega)], rfl⟩
      case round =>
        obtain ⟨j, y, hj, rfl, hy, rfl, hY⟩ := hrel
        have hY' : Hid (crcBit y = crcBits (j + 1) (x ^^^ s[k].toNat)) := by rw [hY.out]; rfl
        have hlt' := crcBit_lt hy
        by_cases hjlt : j < 8
        · cases hb : (bits BinOp.and IntKind.u32 (y : Int) 1 == 1)
          · have e := val_int (k := .u32) (bit_no hy hb)
            have E : Hid (Value.int .u32 ((y : Int) / 2) = .int .u32 ((crcBit y : Nat) : Int)) := e
            clear e
            go_wp2
            go_round
            case rel => exact ⟨j + 1, crcBit y, by omega, by go_num, hlt', E.out, hY'⟩
            case measure => simp [intOf]; omega
          · have e := val_int (k := .u32) (bit_yes hy hb)
            have E : Hid (Value.int .u32 (bits BinOp.xor IntKind.u32 ((y : Int) / 2) 3988292384) = .int .u32 ((crcBit y : Nat) : Int)) := e
            clear e
            go_wp2
            go_round
            case rel => exact ⟨j + 1, crcBit y, by omega, by go_num, hlt', E.out, hY'⟩
            case measure => simp [intOf]; omega
        · have hj8 : j = 8 := by omega
          have hE : Hid (y = crcB x s[k].toNat) := by rw [hY.out, hj8]; rfl
          clear hY hY'
          go_wp2
          go_round
          case rel => exact ⟨k + 1, y, by omega, by go_num, hy, rfl, by rw [hE.out]; exact hX2⟩
          case measure => simp [intOf]; omega
    · have hE : Hid (x = crcRun (r ^^^ 4294967295) s.data.toList) := by have := hX.out; rw [take_all s k hlt] at this; exact this
      have hx1 := ones_u32 hx
      have hX1 : Hid (bits BinOp.xor IntKind.u32 (x : Int) 4294967295 = ((crcOf r s.data.toList : Nat) : Int)) := by rw [hx1, hE.out]; rfl
      clear hX hx1
      go_wp2
      go_ret
      exact ⟨ret_int (by rw [hX1.out]; exact w64_nat (crcOf_lt r _ hr)), rfl⟩

set_option maxHeartbeats 1000000 in
theorem crcMore_yes (r : Nat) (s : ByteArray) (w : World) (hr : r < 4294967296) (hs : s.size ≤ 8000) :
    Calls Tryd.prog 25 #[.int .i64 r, .string s] w fun e w' => e = .returned (.int .i64 (crcOf r s.data.toList : Nat)) ∧ w' = w := by
  have d1 : decide ((8000 : Int) < (s.size : Int)) = false := by simp; omega
  have d2 : decide ((r : Int) < 0) = false := by simp
  have d3 : decide ((4294967295 : Int) < (r : Int)) = false := by simp; omega
  go_enter Tryd.func25, Tryd.ntmps25
  go_wp2
  go_loop [5, 23] (fun v i => ∃ k x : Nat, k ≤ s.size ∧ i = .int .i64 k ∧ x < 4294967296 ∧ v = .int .u32 x ∧ Hid (x = crcRun (r ^^^ 4294967295) (s.data.toList.take k))) (fun _ i => s.size - (intOf i).toNat)
  case atStart => exact ⟨0, r ^^^ 4294967295, by omega, rfl, Nat.xor_lt_two_pow (n := 32) (by omega) (by omega), by rw [ones_u32' hr], by simp [crcRun, Hid]⟩
  case round =>
    obtain ⟨k, x, hk, rfl, hx, rfl, hX⟩ := hrel
    by_cases hlt : k < s.size
    · have hc : s[k].toNat < 256 := s[k].toNat_lt
      have hX2 : Hid (crcB x s[k].toNat = crcRun (r ^^^ 4294967295) (s.data.toList.take (k + 1))) := by rw [take_snoc s k hlt, crcRun_snoc, hX.out]; rfl
      have hb2 := crcB_lt hx hc
      clear hX
      go_wp2_with (go_at_call 43; refine (crcByte_any _ _ _ hx hc).mono ?_; rintro e w' ⟨rfl, rfl⟩)
      go_round
      case rel => exact ⟨k + 1, crcB x s[k].toNat, by omega, by go_num, hb2, rfl, hX2⟩
      case measure => simp [intOf]; omega
    · have hE : Hid (x = crcRun (r ^^^ 4294967295) s.data.toList) := by have := hX.out; rw [take_all s k hlt] at this; exact this
      have hx1 := ones_u32' hx
      have hX1 : Hid (bits BinOp.xor IntKind.u32 IntKind.u32.max (x : Int) = ((crcOf r s.data.toList : Nat) : Int)) := by rw [hx1, hE.out]; rfl
      clear hX hx1
      go_wp2
      go_ret
      exact ⟨ret_int (by rw [hX1.out]; exact w64_nat (crcOf_lt r _ hr)), rfl⟩

theorem crcMore_no (r : Int) (s : ByteArray) (w : World) (hs : s.size ≤ maxLen) (h : 8000 < s.size ∨ r < 0 ∨ 4294967295 < r) :
    Calls Tryd.prog 25 #[.int .i64 r, .string s] w fun e w' => e = .returned (.int .i64 0) ∧ w' = w := by
  unfold maxLen at hs
  by_cases h1 : 8000 < s.size
  · go_enter Tryd.func25, Tryd.ntmps25
    go_wp2
    go_ret
    exact ⟨rfl, rfl⟩
  by_cases h2 : r < 0
  · clear h
    go_enter Tryd.func25, Tryd.ntmps25
    go_wp2
    go_ret
    exact ⟨rfl, rfl⟩
  · have h3 : 4294967295 < r := by omega
    clear h
    go_enter Tryd.func25, Tryd.ntmps25
    go_wp2
    go_ret
    exact ⟨rfl, rfl⟩

/-- what CrcMore is to answer -/
def crcAns (r : Int) (s : ByteArray) : Int := if 8000 < s.size ∨ r < 0 ∨ 4294967295 < r then 0 else (crcOf r.toNat s.data.toList : Nat)

theorem implCrcMore_any (r : Int) (s : ByteArray) (w : World) (hs : s.size ≤ maxLen) :
    Calls Tryd.prog 25 #[.int .i64 r, .string s] w fun e w' => e = .returned (.int .i64 (crcAns r s)) ∧ w' = w := by
  by_cases h : 8000 < s.size ∨ r < 0 ∨ 4294967295 < r
  · unfold crcAns
    rw [if_pos h]
    exact crcMore_no r s w hs h
  · unfold crcAns
    rw [if_neg h]
    obtain ⟨n, rfl⟩ : ∃ n : Nat, r = n := ⟨r.toNat, by omega⟩
    exact crcMore_yes n s w (by omega) (by omega)

theorem implCrc_any (s : ByteArray) (w : World) (hs : s.size ≤ maxLen) :
    Calls Tryd.prog 26 #[.string s] w fun e w' => e = .returned (.int .i64 (crcAns 0 s)) ∧ w' = w := by
  go_enter Tryd.func26, Tryd.ntmps26
  go_wp2_with (go_at_call 25; refine (implCrcMore_any _ _ _ hs).mono ?_; rintro e w' ⟨rfl, rfl⟩)
  go_ret
  exact ⟨rfl, rfl⟩

end Go.Proofs.YtokjhfgbnpdfnahDoor
