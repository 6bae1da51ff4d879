/- Proved here: plain facts on how a number is read from bytes (a function on lists of bytes; no program). -/
import Derived.WalkKit
import Derived.Laws.BitsAllLaws
import Derived.Laws.DeepNot64
namespace Go.Proofs.YtldaebdioljnlaaDoor
open Go.RowKit

/-- a folded number, unfolded -/
def unzig (u : Nat) : Int := if u % 2 = 1 then -((u / 2 : Nat) : Int) - 1 else ((u / 2 : Nat) : Int)

/-- the number that stands at place p, from its byte i on, u being what the bytes ahead of it hold: its value, the place behind it, the code -/
def rd (s : ByteArray) (p : Nat) : Nat → Nat → Nat → Int × Int × Int
  | 0, _, _ => (0, 0, 3)
  | f + 1, i, u =>
    if h : p + i < s.size then
      if i = 9 ∧ 1 < s[p + i].toNat then (0, 0, 3)
      else if s[p + i].toNat < 128 then
        if s[p + i].toNat = 0 ∧ 0 < i then (0, 0, 3) else (unzig (u + s[p + i].toNat * 128 ^ i), ((p + i + 1 : Nat) : Int), 0)
      else rd s p f (i + 1) (u + s[p + i].toNat % 128 * 128 ^ i)
    else (0, 0, 4)

def rdAll (s : ByteArray) (a : Int) : Int × Int × Int := if 8000 < s.size then (0, 0, 2) else if a < 0 then (0, 0, 1) else rd s a.toNat 10 0 0

theorem rd_short {s : ByteArray} {p f i u : Nat} (h : ¬ p + i < s.size) : rd s p (f + 1) i u = (0, 0, 4) := by simp only [rd]; rw [dif_neg h]
theorem rd_nine {s : ByteArray} {p f i u : Nat} (h : p + i < s.size) (h1 : i = 9) (h2 : 1 < s[p + i].toNat) : rd s p (f + 1) i u = (0, 0, 3) := by
  simp only [rd]; rw [dif_pos h, if_pos ⟨h1, h2⟩]
theorem rd_zero {s : ByteArray} {p f i u : Nat} (h : p + i < s.size) (h1 : ¬ (i = 9 ∧ 1 < s[p + i].toNat)) (h2 : s[p + i].toNat = 0) (h3 : 0 < i) : rd s p (f + 1) i u = (0, 0, 3) := by
  simp only [rd]; rw [dif_pos h, if_neg h1, if_pos (by omega), if_pos ⟨h2, h3⟩]
theorem rd_last {s : ByteArray} {p f i u : Nat} (h : p + i < s.size) (h1 : ¬ (i = 9 ∧ 1 < s[p + i].toNat)) (h2 : s[p + i].toNat < 128) (h3 : ¬ (s[p + i].toNat = 0 ∧ 0 < i)) : rd s p (f + 1) i u = (unzig (u + s[p + i].toNat * 128 ^ i), ((p + i + 1 : Nat) : Int), 0) := by
  simp only [rd]; rw [dif_pos h, if_neg h1, if_pos h2, if_neg h3]
theorem rd_more {s : ByteArray} {p f i u : Nat} (h : p + i < s.size) (h1 : ¬ (i = 9 ∧ 1 < s[p + i].toNat)) (h2 : ¬ s[p + i].toNat < 128) : rd s p (f + 1) i u = rd s p f (i + 1) (u + s[p + i].toNat % 128 * 128 ^ i) := by
  simp only [rd]; rw [dif_pos h, if_neg h1, if_neg h2]

theorem pow7 (k : Nat) : 2 ^ (7 * k) = 128 ^ k := by rw [Nat.pow_mul]
theorem pow_le {k : Nat} (h : k ≤ 9) : 128 ^ k ≤ 9223372036854775808 := Nat.le_trans (Nat.pow_le_pow_right (by omega) h) (by decide)
theorem pow_le8 {k : Nat} (h : k ≤ 8) : 128 ^ k ≤ 72057594037927936 := Nat.le_trans (Nat.pow_le_pow_right (by omega) h) (by decide)
theorem part_lt {k x : Nat} (h : k ≤ 9) (hx : x < 128) (h9 : ¬ (k = 9 ∧ 1 < x)) : x * 128 ^ k ≤ 9223372036854775808 := by
  by_cases e : k = 9
  · subst e
    have : x ≤ 1 := by omega
    exact Nat.le_trans (Nat.mul_le_mul_right _ this) (by decide)
  · have h8 := pow_le8 (k := k) (by omega)
    exact Nat.le_trans (Nat.mul_le_mul (Nat.le_of_lt hx) h8) (by decide)
theorem acc_lt {k u x : Nat} (hu : u < 128 ^ k) (h : k ≤ 9) (hx : x < 128) (h9 : ¬ (k = 9 ∧ 1 < x)) : u + x * 128 ^ k < 18446744073709551616 := by
  have := part_lt h hx h9
  have := pow_le h
  omega
theorem acc_pow {k u x : Nat} (hu : u < 128 ^ k) (hx : x < 128) : u + x * 128 ^ k < 128 ^ (k + 1) := by
  rw [Nat.pow_succ]
  have : x * 128 ^ k ≤ 127 * 128 ^ k := Nat.mul_le_mul_right _ (by omega)
  omega
theorem acc_val {k u x : Nat} {y : Int} (hy : y = (x : Int)) (hu : u < 128 ^ k) (h : k ≤ 9) (hx : x < 128) (h9 : ¬ (k = 9 ∧ 1 < x)) :
    IntKind.u64.wrap ((u : Int) + IntKind.u64.wrap (y * 2 ^ (7 * k))) = ((u + x * 128 ^ k : Nat) : Int) := by
  have e1 : y * 2 ^ (7 * k) = ((x * 128 ^ k : Nat) : Int) := by
    rw [hy, ← pow7]
    simp
  have h1 := part_lt h hx h9
  have h2 := acc_lt hu h hx h9
  rw [e1]
  generalize x * 128 ^ k = m at h1 h2
  rw [IntKind.wrap_u64, IntKind.wrap_u64]
  omega
theorem unzig_odd {v : Nat} {x : Int} (h : v % 2 = 1) (hx : x = -((v : Int) / 2) - 1) : x = unzig v := by unfold unzig; rw [if_pos h, hx]; omega
theorem unzig_even {v : Nat} {x : Int} (h : ¬ v % 2 = 1) (hx : x = (v : Int) / 2) : x = unzig v := by unfold unzig; rw [if_neg h, hx]; omega
theorem three {a b c a' b' c' : Int} (h : (a, b, c) = (a', b', c')) : a' = a ∧ b' = b ∧ c' = c := by
  simp only [Prod.mk.injEq] at h
  exact ⟨h.1.symm, h.2.1.symm, h.2.2.symm⟩

theorem join_val {k u x : Nat} (hu : u < 128 ^ k) (h : u + x * 128 ^ k < 18446744073709551616) : bits BinOp.or IntKind.u64 (u : Int) ((x * 128 ^ k : Nat) : Int) = ((u + x * 128 ^ k : Nat) : Int) := by
  rw [u64_or_nat _ _ (by omega) (by omega), Nat.or_comm, nat_join (7 * k) (x * 128 ^ k) u (by rw [pow7]; exact Nat.mul_mod_left _ _) (by rw [pow7]; exact hu), Nat.add_comm]
theorem more_val {k u c : Nat} (hu : u < 128 ^ k) (h : k ≤ 8) (hc : c < 256) :
    bits BinOp.or IntKind.u64 (u : Int) (IntKind.u64.wrap (IntKind.u64.wrap (bits BinOp.and IntKind.u8 (c : Int) 127) * 2 ^ (7 * k))) = ((u + c % 128 * 128 ^ k : Nat) : Int) := by
  have e1 : bits BinOp.and IntKind.u8 (c : Int) ((127 : Nat) : Int) = ((c &&& 127 : Nat) : Int) := u8_and_nat c 127 hc (by omega)
  rw [show ((127 : Nat) : Int) = 127 from rfl, nat_mask7] at e1
  have e2 : IntKind.u64.wrap ((c % 128 : Nat) : Int) = ((c % 128 : Nat) : Int) := by rw [IntKind.wrap_u64]; omega
  have e3 : ((c % 128 : Nat) : Int) * 2 ^ (7 * k) = ((c % 128 * 128 ^ k : Nat) : Int) := by rw [← pow7]; simp
  have h1 := part_lt (k := k) (x := c % 128) (by omega) (by omega) (by omega)
  have h2 := acc_lt (k := k) (x := c % 128) hu (by omega) (by omega) (by omega)
  have e4 : IntKind.u64.wrap ((c % 128 * 128 ^ k : Nat) : Int) = ((c % 128 * 128 ^ k : Nat) : Int) := by
    generalize c % 128 * 128 ^ k = m at h1
    rw [IntKind.wrap_u64]; omega
  rw [e1, e2, e3, e4]
  exact join_val hu h2
theorem last_val {k u c : Nat} (hu : u < 128 ^ k) (h : k ≤ 9) (hc : c < 128) (h9 : ¬ (k = 9 ∧ 1 < c)) :
    bits BinOp.or IntKind.u64 (u : Int) (IntKind.u64.wrap ((c : Int) * 2 ^ (7 * k))) = ((u + c * 128 ^ k : Nat) : Int) := by
  have e3 : (c : Int) * 2 ^ (7 * k) = ((c * 128 ^ k : Nat) : Int) := by rw [← pow7]; simp
  have h1 := part_lt (k := k) (x := c) h hc h9
  have h2 := acc_lt (k := k) (x := c) hu h hc h9
  have e4 : IntKind.u64.wrap ((c * 128 ^ k : Nat) : Int) = ((c * 128 ^ k : Nat) : Int) := by
    generalize c * 128 ^ k = m at h1
    rw [IntKind.wrap_u64]; omega
  rw [e3, e4]
  exact join_val hu h2
theorem i64_xor_zero (a : Nat) (h : a < 9223372036854775808) : bits .xor .i64 (a : Int) 0 = (a : Int) := by
  show IntKind.i64.wrap ((BitVec.ofInt 64 (a : Int) ^^^ BitVec.ofInt 64 0).toNat : Int) = _
  have h1 : BitVec.ofInt 64 0 = 0#64 := by decide
  rw [h1, BitVec.xor_zero, ofInt_u64 a (by omega), IntKind.wrap_i64]
  omega
theorem i64_xor_comm (a b : Int) : bits .xor .i64 a b = bits .xor .i64 b a := by
  show IntKind.i64.wrap ((BitVec.ofInt 64 a ^^^ BitVec.ofInt 64 b).toNat : Int) = IntKind.i64.wrap ((BitVec.ofInt 64 b ^^^ BitVec.ofInt 64 a).toNat : Int)
  rw [BitVec.xor_comm]
theorem unfold_val {v : Nat} (hv : (v : Int) ≤ 18446744073709551615) : bits BinOp.xor IntKind.i64 ((v : Int) / 2) (wrap64 (-wrap64 (bits BinOp.and IntKind.u64 (v : Int) 1))) = unzig v := by
  have e1 : bits BinOp.and IntKind.u64 (v : Int) ((1 : Nat) : Int) = ((v &&& 1 : Nat) : Int) := u64_and_nat v 1 (by omega) (by omega)
  rw [show ((1 : Nat) : Int) = 1 from rfl, nat_mask1] at e1
  rw [e1]
  have e2 : (v : Int) / 2 = ((v / 2 : Nat) : Int) := by omega
  rw [e2]
  by_cases h : v % 2 = 1
  · rw [h]
    have e3 : wrap64 (-wrap64 ((1 : Nat) : Int)) = -1 := by unfold wrap64; omega
    have e4 := i64_not (v / 2) (by omega)
    have e5 : bits BinOp.xor IntKind.i64 ((v / 2 : Nat) : Int) (-1) = bits BinOp.xor IntKind.i64 (-1) ((v / 2 : Nat) : Int) := i64_xor_comm _ _
    rw [e3, e5, e4]
    unfold unzig
    rw [if_pos h]
    omega
  · have h0 : v % 2 = 0 := by omega
    rw [h0]
    have e3 : wrap64 (-wrap64 ((0 : Nat) : Int)) = 0 := by unfold wrap64; omega
    rw [e3, i64_xor_zero _ (by omega)]
    unfold unzig
    rw [if_neg h]
end Go.Proofs.YtldaebdioljnlaaDoor
