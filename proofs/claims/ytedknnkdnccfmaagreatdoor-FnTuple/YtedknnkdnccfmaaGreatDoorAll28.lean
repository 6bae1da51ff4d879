/- Proved here: what the CRC functions answer: impl.crcByte, impl.CrcMore, impl.Crc and spec.l01Crc return the CRC that is defined below as a plain function on numbers, and leave memory alone (no conditions but that a string is one). · Proved here: nothing of a program: a CRC goes on from text to text; a tuple's place by a key, as a plain function. · Proved here: nothing of a program: a right tuple turned round twice is itself; of two right tuples that are not the same just one is ahead; a place by a key is one of so many; a packet that is given another tuple has it, and is given its own back. -/
import Derived.Test.YtedknnkdnccfmaaGreatDoorRows
import Derived.WalkKit
import Derived.WalkSpells
import Derived.ProofKit
import Derived.OpenShut
import Derived.ShutString
import Derived.Handy
import Derived.Below
import Derived.Laws.BitsAllLaws
import Derived.Test.YtedknnkdnccfmaaGreatDoorAll23
import Derived.Test.YtedknnkdnccfmaaGreatDoorAll27
section
namespace Go.Proofs.YtedknnkdnccfmaaGreatDoor
open Go.ChangeShapes Go.WideShapes Go.ChangeAt Go.RowKit
open Go.ChangeMaps (open_string shut_string)
set_option linter.unusedVariables false

def crcBit (r : Nat) : Nat := if r % 2 = 1 then (r / 2) ^^^ 3988292384 else r / 2
def crcBits : Nat → Nat → Nat
  | 0, r => r
  | n + 1, r => crcBit (crcBits n r)
def crcB (r c : Nat) : Nat := crcBits 8 (r ^^^ c)
theorem crcBit_lt {r : Nat} (h : r < 4294967296) : crcBit r < 4294967296 := by
  unfold crcBit
  split
  · exact Nat.xor_lt_two_pow (n := 32) (by omega) (by omega)
  · omega
theorem crcBits_lt (n : Nat) {r : Nat} (h : r < 4294967296) : crcBits n r < 4294967296 := by
  induction n with
  | zero => exact h
  | succ n ih => exact crcBit_lt ih

def crcRun (r : Nat) (l : List UInt8) : Nat := l.foldl (fun x c => crcB x c.toNat) r
theorem crcB_lt {r c : Nat} (h : r < 4294967296) (hc : c < 256) : crcB r c < 4294967296 := crcBits_lt 8 (Nat.xor_lt_two_pow (n := 32) (by omega) (by omega))
theorem crcRun_lt (l : List UInt8) {r : Nat} (h : r < 4294967296) : crcRun r l < 4294967296 := by
  unfold crcRun
  induction l generalizing r with
  | nil => exact h
  | cons c l ih => exact ih (crcB_lt h (by have := c.toNat_lt; omega))
theorem crcRun_snoc (l : List UInt8) (c : UInt8) (r : Nat) : crcRun r (l ++ [c]) = crcB (crcRun r l) c.toNat := by simp [crcRun]
/-- the CRC that goes on from crc -/
def crcOf (crc : Nat) (l : List UInt8) : Nat := crcRun (crc ^^^ 4294967295) l ^^^ 4294967295
theorem crcOf_lt (crc : Nat) (l : List UInt8) (h : crc < 4294967296) : crcOf crc l < 4294967296 :=
  Nat.xor_lt_two_pow (n := 32) (crcRun_lt l (Nat.xor_lt_two_pow (n := 32) (by omega) (by omega))) (by omega)

theorem take_snoc (s : ByteArray) (k : Nat) (h : k < s.size) : s.data.toList.take (k + 1) = s.data.toList.take k ++ [s[k]] := by
  rw [List.take_succ_eq_append_getElem (by simpa using h)]; rfl
theorem take_all (s : ByteArray) (k : Nat) (h : ¬ k < s.size) : s.data.toList.take k = s.data.toList := List.take_of_length_le (by simp; omega)

theorem bit_yes {x : Nat} (hx : x < 4294967296) (h : (bits BinOp.and IntKind.u32 (x : Int) 1 == 1) = true) : bits BinOp.xor IntKind.u32 ((x : Int) / 2) 3988292384 = ((crcBit x : Nat) : Int) := by
  have e1 : bits BinOp.and IntKind.u32 (x : Int) ((1 : Nat) : Int) = ((x &&& 1 : Nat) : Int) := u32_and_nat x 1 hx (by omega)
  rw [show ((1 : Nat) : Int) = 1 from rfl] at e1
  rw [e1, nat_mask1] at h
  have h' : x % 2 = 1 := by simp at h; omega
  have e2 : bits BinOp.xor IntKind.u32 ((x / 2 : Nat) : Int) ((3988292384 : Nat) : Int) = ((x / 2 ^^^ 3988292384 : Nat) : Int) := u32_xor_nat _ _ (by omega) (by omega)
  have e3 : ((x : Int) / 2) = ((x / 2 : Nat) : Int) := by omega
  rw [e3]
  unfold crcBit
  rw [if_pos h']
  exact e2
theorem bit_no {x : Nat} (hx : x < 4294967296) (h : (bits BinOp.and IntKind.u32 (x : Int) 1 == 1) = false) : (x : Int) / 2 = ((crcBit x : Nat) : Int) := by
  have e1 : bits BinOp.and IntKind.u32 (x : Int) ((1 : Nat) : Int) = ((x &&& 1 : Nat) : Int) := u32_and_nat x 1 hx (by omega)
  rw [show ((1 : Nat) : Int) = 1 from rfl] at e1
  rw [e1, nat_mask1] at h
  have h' : ¬ x % 2 = 1 := by simp at h; omega
  unfold crcBit
  rw [if_neg h']
  omega
theorem ones_u32 {r : Nat} (h : r < 4294967296) : bits BinOp.xor IntKind.u32 (r : Int) 4294967295 = ((r ^^^ 4294967295 : Nat) : Int) := u32_xor_nat r 4294967295 h (by omega)
theorem ones_u32' {r : Nat} (h : r < 4294967296) : bits BinOp.xor IntKind.u32 IntKind.u32.max (r : Int) = ((r ^^^ 4294967295 : Nat) : Int) := by
  have : bits BinOp.xor IntKind.u32 ((4294967295 : Nat) : Int) (r : Int) = ((4294967295 ^^^ r : Nat) : Int) := u32_xor_nat 4294967295 r (by omega) h
  rw [Nat.xor_comm] at this
  exact this
theorem w64_nat {n : Nat} (h : n < 4294967296) : wrap64 (n : Int) = n := by unfold wrap64; omega
theorem ret_int {k : IntKind} {a b : Int} (h : a = b) : Ending.returned (.int k a) = .returned (.int k b) := by rw [h]
theorem val_int {k : IntKind} {a b : Int} (h : a = b) : Value.int k a = .int k b := by rw [h]

set_option maxHeartbeats 400000 in
theorem crcByte_any (r c : Nat) (w : World) (hr : r < 4294967296) (hc : c < 256) :
    Calls Tryz.prog 113 #[.int .u32 r, .int .u8 c] w fun e w' => e = .returned (.int .u32 (crcB r c : Nat)) ∧ w' = w := by
  go_enter Tryz.func113, Tryz.ntmps113
  go_wp2
  go_loop [0, 10] (fun v i => ∃ k x : Nat, k ≤ 8 ∧ i = .int .i64 k ∧ x < 4294967296 ∧ v = .int .u32 x ∧ Hid (x = crcBits k (r ^^^ c))) (fun _ i => 8 - (intOf i).toNat)
  case atStart => exact ⟨0, r ^^^ c, by omega, rfl, Nat.xor_lt_two_pow (n := 32) (by omega) (by omega), by rw [u32_xor_nat _ _ hr (by omega)], rfl⟩
  case round =>
    obtain ⟨k, x, hk, rfl, hx, rfl, hX⟩ := hrel
    have hX' : Hid (crcBit x = crcBits (k + 1) (r ^^^ c)) := by rw [hX.out]; rfl
    have hlt' := crcBit_lt hx
    by_cases hlt : k < 8
    · cases hb : (bits BinOp.and IntKind.u32 (x : Int) 1 == 1)
      · have e := val_int (k := .u32) (bit_no hx hb)
        have E : Hid (Value.int .u32 ((x : Int) / 2) = .int .u32 ((crcBit x : Nat) : Int)) := e
        clear e
        go_wp2
        go_round
        case rel => exact ⟨k + 1, crcBit x, by omega, by go_num, hlt', E.out, hX'⟩
        case measure => simp [intOf]; omega
      · have e := val_int (k := .u32) (bit_yes hx hb)
        have E : Hid (Value.int .u32 (bits BinOp.xor IntKind.u32 ((x : Int) / 2) 3988292384) = .int .u32 ((crcBit x : Nat) : Int)) := e
        clear e
        go_wp2
        go_round
        case rel => exact ⟨k + 1, crcBit x, by omega, by go_num, hlt', E.out, hX'⟩
        case measure => simp [intOf]; omega
    · have hk8 : k = 8 := by omega
      have hE : Hid (x = crcB r c) := by rw [hX.out, hk8]; rfl
      clear hX hX'
      go_wp2
      go_ret
      exact ⟨ret_int (by rw [hE.out]), rfl⟩

set_option maxHeartbeats 1000000 in
theorem l01Crc_any (r : Nat) (s : ByteArray) (w : World) (hr : r < 4294967296) (hs : s.size ≤ maxLen) :
    Calls Tryz.prog 115 #[.int .i64 r, .string s] w fun e w' => e = .returned (.int .i64 (crcOf r s.data.toList : Nat)) ∧ w' = w := by
  unfold maxLen at hs
  go_enter Tryz.func115, Tryz.ntmps115
  go_wp2
  go_loop [5, 6] (fun v i => ∃ k x : Nat, k ≤ s.size ∧ i = .int .i64 k ∧ x < 4294967296 ∧ v = .int .u32 x ∧ Hid (x = crcRun (r ^^^ 4294967295) (s.data.toList.take k))) (fun _ i => s.size - (intOf i).toNat)
  case atStart => exact ⟨0, r ^^^ 4294967295, by omega, rfl, Nat.xor_lt_two_pow (n := 32) (by omega) (by omega), by rw [ones_u32 hr], by simp [crcRun, Hid]⟩
  case round =>
    obtain ⟨k, x, hk, rfl, hx, rfl, hX⟩ := hrel
    by_cases hlt : k < s.size
    · have hc : s[k].toNat < 256 := s[k].toNat_lt
      have hX2 : Hid (crcB x s[k].toNat = crcRun (r ^^^ 4294967295) (s.data.toList.take (k + 1))) := by rw [take_snoc s k hlt, crcRun_snoc, hX.out]; rfl
      have hb2 := crcB_lt hx hc
      clear hX
      go_wp2
      go_loop [5, 7] (fun v i => ∃ j y : Nat, j ≤ 8 ∧ i = .int .i64 j ∧ y < 4294967296 ∧ v = .int .u32 y ∧ Hid (y = crcBits j (x ^^^ s[k].toNat))) (fun _ i => 8 - (intOf i).toNat)
      case atStart => exact ⟨0, x ^^^ s[k].toNat, by omega, rfl, Nat.xor_lt_two_pow (n := 32) (by omega) (by omega), by rw [u32_xor_nat _ _ hx (by omega)], rfl⟩
      case round =>
        obtain ⟨j, y, hj, rfl, hy, rfl, hY⟩ := hrel
        have hY' : Hid (crcBit y = crcBits (j + 1) (x ^^^ s[k].toNat)) := by rw [hY.out]; rfl
        have hlt' := crcBit_lt hy
        by_cases hjlt : j < 8
        · cases hb : (bits BinOp.and IntKind.u32 (y : Int) 1 == 1)
          · have e := val_int (k := .u32) (bit_no hy hb)
            have E : Hid (Value.int .u32 ((y : Int) / 2) = .int .u32 ((crcBit y : Nat) : Int)) := e
            clear e
            go_wp2
            go_round
            case rel => exact ⟨j + 1, crcBit y, by omega, by go_num, hlt', E.out, hY'⟩
            case measure => simp [intOf]; omega
          · have e := val_int (k := .u32) (bit_yes hy hb)
            have E : Hid (Value.int .u32 (bits BinOp.xor IntKind.u32 ((y : Int) / 2) 3988292384) = .int .u32 ((crcBit y : Nat) : Int)) := e
            clear e
            go_wp2
            go_round
            case rel => exact ⟨j + 1, crcBit y, by omega, by go_num, hlt', E.out, hY'⟩
            case measure => simp [intOf]; omega
        · have hj8 : j = 8 := by omega
          have hE : Hid (y = crcB x s[k].toNat) := by rw [hY.out, hj8]; rfl
          clear hY hY'
          go_wp2
          go_round
          case rel => exact ⟨k + 1, y, by omega, by go_num, hy, rfl, by rw [hE.out]; exact hX2⟩
          case measure => simp [intOf]; omega
    · have hE : Hid (x = crcRun (r ^^^ 4294967295) s.data.toList) := by have := hX.out; rw [take_all s k hlt] at this; exact this
      have hx1 := ones_u32 hx
      have hX1 : Hid (bits BinOp.xor IntKind.u32 (x : Int) 4294967295 = ((crcOf r s.data.toList : Nat) : Int)) := by rw [hx1, hE.out]; rfl
      clear hX hx1
      go_wp2
      go_ret
      exact ⟨ret_int (by rw [hX1.out]; exact w64_nat (crcOf_lt r _ hr)), rfl⟩

set_option maxHeartbeats 1000000 in
theorem crcMore_yes (r : Nat) (s : ByteArray) (w : World) (hr : r < 4294967296) (hs : s.size ≤ 8000) :
    Calls Tryz.prog 72 #[.int .i64 r, .string s] w fun e w' => e = .returned (.int .i64 (crcOf r s.data.toList : Nat)) ∧ w' = w := by
  have d1 : decide ((8000 : Int) < (s.size : Int)) = false := by simp; omega
  have d2 : decide ((r : Int) < 0) = false := by simp
  have d3 : decide ((4294967295 : Int) < (r : Int)) = false := by simp; omega
  go_enter Tryz.func72, Tryz.ntmps72
  go_wp2
  go_loop [5, 23] (fun v i => ∃ k x : Nat, k ≤ s.size ∧ i = .int .i64 k ∧ x < 4294967296 ∧ v = .int .u32 x ∧ Hid (x = crcRun (r ^^^ 4294967295) (s.data.toList.take k))) (fun _ i => s.size - (intOf i).toNat)
  case atStart => exact ⟨0, r ^^^ 4294967295, by omega, rfl, Nat.xor_lt_two_pow (n := 32) (by omega) (by omega), by rw [ones_u32' hr], by simp [crcRun, Hid]⟩
  case round =>
    obtain ⟨k, x, hk, rfl, hx, rfl, hX⟩ := hrel
    by_cases hlt : k < s.size
    · have hc : s[k].toNat < 256 := s[k].toNat_lt
      have hX2 : Hid (crcB x s[k].toNat = crcRun (r ^^^ 4294967295) (s.data.toList.take (k + 1))) := by rw [take_snoc s k hlt, crcRun_snoc, hX.out]; rfl
      have hb2 := crcB_lt hx hc
      clear hX
      go_wp2_with (go_at_call 113; refine (crcByte_any _ _ _ hx hc).mono ?_; rintro e w' ⟨rfl, rfl⟩)
      go_round
      case rel => exact ⟨k + 1, crcB x s[k].toNat, by omega, by go_num, hb2, rfl, hX2⟩
      case measure => simp [intOf]; omega
    · have hE : Hid (x = crcRun (r ^^^ 4294967295) s.data.toList) := by have := hX.out; rw [take_all s k hlt] at this; exact this
      have hx1 := ones_u32' hx
      have hX1 : Hid (bits BinOp.xor IntKind.u32 IntKind.u32.max (x : Int) = ((crcOf r s.data.toList : Nat) : Int)) := by rw [hx1, hE.out]; rfl
      clear hX hx1
      go_wp2
      go_ret
      exact ⟨ret_int (by rw [hX1.out]; exact w64_nat (crcOf_lt r _ hr)), rfl⟩

theorem crcMore_no (r : Int) (s : ByteArray) (w : World) (hs : s.size ≤ maxLen) (h : 8000 < s.size ∨ r < 0 ∨ 4294967295 < r) :
    Calls Tryz.prog 72 #[.int .i64 r, .string s] w fun e w' => e = .returned (.int .i64 0) ∧ w' = w := by
  unfold maxLen at hs
  by_cases h1 : 8000 < s.size
  · go_enter Tryz.func72, Tryz.ntmps72
    go_wp2
    go_ret
    exact ⟨rfl, rfl⟩
  by_cases h2 : r < 0
  · clear h
    go_enter Tryz.func72, Tryz.ntmps72
    go_wp2
    go_ret
    exact ⟨rfl, rfl⟩
  · have h3 : 4294967295 < r := by omega
    clear h
    go_enter Tryz.func72, Tryz.ntmps72
    go_wp2
    go_ret
    exact ⟨rfl, rfl⟩

/-- what CrcMore is to answer -/
def crcAns (r : Int) (s : ByteArray) : Int := if 8000 < s.size ∨ r < 0 ∨ 4294967295 < r then 0 else (crcOf r.toNat s.data.toList : Nat)

theorem implCrcMore_any (r : Int) (s : ByteArray) (w : World) (hs : s.size ≤ maxLen) :
    Calls Tryz.prog 72 #[.int .i64 r, .string s] w fun e w' => e = .returned (.int .i64 (crcAns r s)) ∧ w' = w := by
  by_cases h : 8000 < s.size ∨ r < 0 ∨ 4294967295 < r
  · unfold crcAns
    rw [if_pos h]
    exact crcMore_no r s w hs h
  · unfold crcAns
    rw [if_neg h]
    obtain ⟨n, rfl⟩ : ∃ n : Nat, r = n := ⟨r.toNat, by omega⟩
    exact crcMore_yes n s w (by omega) (by omega)

theorem implCrc_any (s : ByteArray) (w : World) (hs : s.size ≤ maxLen) :
    Calls Tryz.prog 73 #[.string s] w fun e w' => e = .returned (.int .i64 (crcAns 0 s)) ∧ w' = w := by
  go_enter Tryz.func73, Tryz.ntmps73
  go_wp2_with (go_at_call 72; refine (implCrcMore_any _ _ _ hs).mono ?_; rintro e w' ⟨rfl, rfl⟩)
  go_ret
  exact ⟨rfl, rfl⟩

end Go.Proofs.YtedknnkdnccfmaaGreatDoor
end

section
namespace Go.Proofs.YtedknnkdnccfmaaGreatDoor
open Go.ChangeShapes Go.WideShapes Go.ChangeAt Go.RowKit
set_option linter.unusedVariables false
set_option maxRecDepth 100000
set_option linter.unusedSimpArgs false

theorem crcRun_app (r : Nat) (l m : List UInt8) : crcRun r (l ++ m) = crcRun (crcRun r l) m := by simp [crcRun]
theorem crcOf_app (l m : List UInt8) : crcOf (crcOf 0 l) m = crcOf 0 (l ++ m) := by
  unfold crcOf
  rw [Nat.xor_assoc, Nat.xor_self, Nat.xor_zero, crcRun_app]
theorem crc_app {t u : ByteArray} (h : t.size + u.size ≤ 8000) : crcAns (crcAns 0 t) u = crcAns 0 (t ++ u) := by
  have e1 : crcAns 0 t = ((crcOf 0 t.data.toList : Nat) : Int) := if_neg (by omega)
  have e2 : crcAns 0 (t ++ u) = ((crcOf 0 (t ++ u).data.toList : Nat) : Int) := if_neg (by rw [ByteArray.size_append]; omega)
  have hlt := crcOf_lt 0 t.data.toList (by omega)
  have e3 : crcAns ((crcOf 0 t.data.toList : Nat) : Int) u = ((crcOf ((crcOf 0 t.data.toList : Nat) : Int).toNat u.data.toList : Nat) : Int) := if_neg (by omega)
  rw [e1, e3, e2, Int.toNat_natCast, crcOf_app]
  simp [ByteArray.data_append]
def hashB (t : Tp) (k : ByteArray) (n : Int) : Bool := rightT t && decide (k.size ≤ 20) && (decide (1 ≤ n) && decide (n ≤ 64))
def hashAns (t : Tp) (k : ByteArray) (n : Int) : Int := if hashB t k n = true then (crcAns 0 (k ++ tupT t)).tmod n else -1
theorem hash_no {t : Tp} {k : ByteArray} {n : Int} (h : hashB t k n = false) : hashAns t k n = -1 := if_neg (by rw [h]; simp)
theorem hash_yes {t : Tp} {k : ByteArray} {n : Int} (h : hashB t k n = true) : hashAns t k n = (crcAns 0 (k ++ tupT t)).tmod n := if_pos h
end Go.Proofs.YtedknnkdnccfmaaGreatDoor
end

section
namespace Go.Proofs.YtedknnkdnccfmaaGreatDoor
open Go.ChangeShapes Go.WideShapes Go.ChangeAt Go.RowKit
set_option linter.unusedVariables false

theorem tp_ext {a b : Tp} (h1 : a.proto = b.proto) (h2 : a.src = b.src) (h3 : a.sport = b.sport) (h4 : a.dst = b.dst) (h5 : a.dport = b.dport) (h6 : a.kind = b.kind) : a = b := by
  cases a; cases b; simp_all
theorem inv_right {t : Tp} (h : rightT t = true) : rightT (invT t) = true := by
  unfold rightT echoB at *
  unfold invT
  by_cases h1 : t.proto = 1
  · simp [h1] at h ⊢; grind
  · simp [h1] at h ⊢; grind
theorem inv_twice {t : Tp} (h : rightT t = true) : invT (invT t) = t := by
  unfold rightT echoB at h
  obtain ⟨pr, s, sp, d, dp, k⟩ := t
  unfold invT
  by_cases h1 : pr = 1
  · simp [h1] at h ⊢; omega
  · simp [h1] at h ⊢; omega
theorem invAns_twice {t : Tp} (h : rightT t = true) : invAns (invAns t) = t := by
  unfold invAns
  rw [if_pos h, if_pos (inv_right h), inv_twice h]
theorem invAns_right {t : Tp} (h : rightT t = true) : rightT (invAns t) = true := by
  unfold invAns
  rw [if_pos h]; exact inv_right h
theorem less_one {a b : Tp} (ha : rightT a = true) (hb : rightT b = true) (hn : a ≠ b) : lessAns b a = !lessAns a b := by
  unfold lessAns
  rw [ha, hb]
  simp only [Bool.true_and]
  unfold lessT
  by_cases h1 : a.proto = b.proto
  · rw [if_pos h1, if_pos h1.symm]
    by_cases h2 : a.src = b.src
    · rw [if_pos h2, if_pos h2.symm]
      by_cases h3 : a.sport = b.sport
      · rw [if_pos h3, if_pos h3.symm]
        by_cases h4 : a.dst = b.dst
        · rw [if_pos h4, if_pos h4.symm]
          by_cases h5 : a.dport = b.dport
          · rw [if_pos h5, if_pos h5.symm]
            have h6 : a.kind ≠ b.kind := fun h6 => hn (tp_ext h1 h2 h3 h4 h5 h6)
            rw [← decide_not, decide_eq_decide]; omega
          · rw [if_neg h5, if_neg (Ne.symm h5), ← decide_not, decide_eq_decide]; omega
        · rw [if_neg h4, if_neg (Ne.symm h4), ← decide_not, decide_eq_decide]; omega
      · rw [if_neg h3, if_neg (Ne.symm h3), ← decide_not, decide_eq_decide]; omega
    · rw [if_neg h2, if_neg (Ne.symm h2), ← decide_not, decide_eq_decide]; omega
  · rw [if_neg h1, if_neg (Ne.symm h1), ← decide_not, decide_eq_decide]; omega
theorem hash_below (t : Tp) (k : ByteArray) (n : Int) : ¬ (n ≤ hashAns t k n ∧ 0 < hashAns t k n) := by
  rintro ⟨h1, h2⟩
  cases hb : hashB t k n
  · rw [hash_no hb] at h2; omega
  · rw [hash_yes hb] at h1
    unfold hashB at hb
    simp only [Bool.and_eq_true, decide_eq_true_eq] at hb
    have := Int.tmod_lt_of_pos (crcAns 0 (k ++ tupT t)) (show 0 < n by omega)
    omega
theorem of_right {p : Pk} (hr : rightB p = true) (he : errorB p = false) : rightT (ofP p) = true := by
  unfold rightT echoB ofP
  unfold errorB at he
  unfold rightB tcpB udpB pingB at hr
  by_cases h6 : p.proto = 6
  · simp [h6] at hr he ⊢; grind
  · by_cases h17 : p.proto = 17
    · simp [h17] at hr he ⊢; grind
    · by_cases h1 : p.proto = 1
      · simp [h1] at hr he ⊢; grind
      · simp [h6, h17, h1] at hr
theorem with_parts {p : Pk} {t : Tp} (h : withB p t = true) : rightB p = true ∧ errorB p = false ∧ rightT t = true ∧ t.proto = p.proto ∧ t.kind = p.kind := by
  unfold withB at h
  simp only [Bool.and_eq_true, Bool.not_eq_true', decide_eq_true_eq] at h
  exact ⟨h.1.1.1.1, h.1.1.1.2, h.1.1.2, h.1.2, h.2⟩
theorem with_has {p : Pk} {t : Tp} (h : withB p t = true) : ofAns (withT p t) = t := by
  obtain ⟨hr, he, ht, hp, hk⟩ := with_parts h
  rw [ofAns_with hr he ht, given_yes ht hp hk]
theorem with_back {p : Pk} {t : Tp} (h : withB p t = true) : withB (withT p t) (ofAns p) = true ∧ withT (withT p t) (ofAns p) = p := by
  obtain ⟨hr, he, ht, hp, hk⟩ := with_parts h
  have e : ofAns p = ofP p := by unfold ofAns; rw [hr, he]; rfl
  rw [e]
  constructor
  · unfold withB
    rw [with_right hr he ht, errorB_with, he, of_right hr he]
    simp [ofP, withT]
  · obtain ⟨s, d, pr, a, b, k, fl, sq, ac, bo⟩ := p
    simp only [withT, ofP]
    by_cases h1 : pr = 1 <;> simp [h1]
end Go.Proofs.YtedknnkdnccfmaaGreatDoor
end
