/- Proved here: plain facts on sums: a sum folded into a word, the words of a text added up, a check that turns; and two facts on the bits of int64 (no program of its own). -/
import Derived.Test.YtpcflfhblomcoaaRows
import Derived.WalkKit
import Derived.WalkSpells
import Derived.ProofKit
import Derived.OpenShut
import Derived.ShutString
import Derived.Handy
import Derived.Below
import Derived.Laws.BitsAllLaws
namespace Go.Proofs.Ytpcflfhblomcoaa
open Go.ChangeShapes Go.WideShapes Go.ChangeAt Go.RowKit
open Go.ChangeMaps (open_string shut_string)
set_option linter.unusedVariables false

/-- a sum folded into a word -/
def foldN (n : Nat) : Nat := if n = 0 then 0 else (n - 1) % 65535 + 1
theorem foldN_le (n : Nat) : foldN n ≤ 65535 := by unfold foldN; split <;> omega
theorem foldN_word {n : Nat} (h : n ≤ 65535) : foldN n = n := by unfold foldN; split <;> omega
theorem foldN_step {n : Nat} (h : 65535 < n) : foldN (n % 65536 + n / 65536) = foldN n := by unfold foldN; rw [if_neg (by omega), if_neg (by omega)]; omega
theorem foldN_down {n : Nat} (h : 65535 < n) : n % 65536 + n / 65536 < n := by omega
theorem foldN_zero {n : Nat} : foldN n = 0 ↔ n = 0 := by unfold foldN; split <;> omega
theorem foldN_add (a b : Nat) : foldN (foldN a + foldN b) = foldN (a + b) := by
  unfold foldN
  by_cases ha : a = 0
  · subst ha
    by_cases hb : b = 0
    · subst hb; rfl
    · simp only [hb, if_false, if_true, Nat.zero_add]
      rw [if_neg (by omega)]
      omega
  · by_cases hb : b = 0
    · subst hb
      simp only [ha, if_false, if_true, Nat.add_zero]
      rw [if_neg (by omega)]
      omega
    · simp only [ha, hb, if_false]
      rw [if_neg (by omega), if_neg (by omega)]
      omega
theorem foldN_pos {n : Nat} (h : n ≠ 0) : foldN n = (n - 1) % 65535 + 1 := if_neg h
/-- a text with its check behind it -/
theorem foldN_good (a : Nat) : foldN (a + (65535 - foldN a)) = 65535 := by
  by_cases ha : a = 0
  · subst ha; rfl
  · have h1 := foldN_pos ha
    have h2 := foldN_le a
    rw [foldN_pos (by omega)]
    omega
/-- a check that turns with a word -/
theorem foldN_turn {a y z : Nat} (ha : a ≠ 0) (hy : y ≤ 65535) : foldN (65535 - (65535 - foldN (a + y)) + (65535 - y) + z) = foldN (a + z) := by
  have h1 := foldN_pos (n := a + y) (by omega)
  have h2 := foldN_le (a + y)
  rw [foldN_pos (n := a + z) (by omega), foldN_pos (by omega)]
  omega

/-- the words of a text added up -/
def rawSum : List UInt8 → Nat
  | [] => 0
  | [a] => 256 * a.toNat
  | a :: b :: l => 256 * a.toNat + b.toNat + rawSum l
theorem rawSum_two (a b : UInt8) (l : List UInt8) : rawSum (a :: b :: l) = 256 * a.toNat + b.toNat + rawSum l := rfl
theorem rawSum_app (k : Nat) : ∀ (l m : List UInt8), l.length = 2 * k → rawSum (l ++ m) = rawSum l + rawSum m := by
  induction k with
  | zero => intro l m h; obtain rfl : l = [] := List.length_eq_zero_iff.1 (by omega); simp [rawSum]
  | succ k ih =>
    intro l m h
    match l, h with
    | a :: b :: l, h =>
      have := ih l m (by simp at h; omega)
      simp only [List.cons_append, rawSum_two, this]
      omega
theorem rawSum_le : ∀ (n : Nat) (l : List UInt8), l.length ≤ n → rawSum l ≤ 65535 * l.length
  | 0, l, h => by obtain rfl : l = [] := List.length_eq_zero_iff.1 (by omega); simp [rawSum]
  | 1, l, h => by
    match l, h with
    | [], _ => simp [rawSum]
    | [a], _ => have := a.toNat_lt; simp [rawSum]; omega
  | n + 2, l, h => by
    match l, h with
    | [], _ => simp [rawSum]
    | [a], _ => have := a.toNat_lt; simp [rawSum]; omega
    | a :: b :: l, h =>
      have := rawSum_le n l (by simp at h; omega)
      have := a.toNat_lt
      have := b.toNat_lt
      rw [rawSum_two, List.length_cons, List.length_cons]
      omega
/-- the word at place i -/
theorem rawSum_step2 (l : List UInt8) (k : Nat) (h : 2 * k + 1 < l.length) : rawSum (l.take (2 * (k + 1))) = rawSum (l.take (2 * k)) + (256 * l[2 * k].toNat + l[2 * k + 1].toNat) := by
  have e : l.take (2 * (k + 1)) = l.take (2 * k) ++ [l[2 * k], l[2 * k + 1]] := by
    rw [show 2 * (k + 1) = 2 * k + 1 + 1 from by omega, List.take_succ_eq_append_getElem h, List.take_succ_eq_append_getElem (show 2 * k < l.length by omega), List.append_assoc]
    rfl
  rw [e, rawSum_app k _ _ (by simp; omega)]
  simp [rawSum]
theorem rawSum_step1 (l : List UInt8) (k : Nat) (h : 2 * k + 1 = l.length) : rawSum (l.take (2 * (k + 1))) = rawSum (l.take (2 * k)) + 256 * (l[2 * k]'(by omega)).toNat := by
  have e : l.take (2 * (k + 1)) = l.take (2 * k) ++ [l[2 * k]'(by omega)] := by
    rw [List.take_of_length_le (by omega), ← List.take_succ_eq_append_getElem (by omega), List.take_of_length_le (by omega)]
  rw [e, rawSum_app k _ _ (by simp; omega)]
  simp [rawSum]

/-- the word of that number in a text -/
def wordN (l : List UInt8) (k : Nat) : Nat := rawSum ((l.drop (2 * k)).take 2)
theorem rawSum_word (l : List UInt8) (k : Nat) (h : 2 * k < l.length) : rawSum (l.take (2 * (k + 1))) = rawSum (l.take (2 * k)) + wordN l k := by
  rw [show 2 * (k + 1) = 2 * k + 2 from by omega, List.take_add, rawSum_app k _ _ (by simp; omega)]
  rfl
theorem wordN_two (l : List UInt8) (k : Nat) (h : 2 * k + 1 < l.length) : wordN l k = 256 * l[2 * k].toNat + l[2 * k + 1].toNat := by
  have h1 := rawSum_step2 l k h
  have h2 := rawSum_word l k (by omega)
  omega
theorem wordN_one (l : List UInt8) (k : Nat) (h : 2 * k + 1 = l.length) : wordN l k = 256 * (l[2 * k]'(by omega)).toNat := by
  have h1 := rawSum_step1 l k h
  have h2 := rawSum_word l k (by omega)
  omega
theorem wordN_le (l : List UInt8) (k : Nat) : wordN l k ≤ 65535 * 2 := by
  have h1 := rawSum_le 2 ((l.drop (2 * k)).take 2) (by simp; omega)
  have h2 : ((l.drop (2 * k)).take 2).length ≤ 2 := by simp; omega
  unfold wordN
  omega
/-- what SumOf is to answer -/
def sumAns (s : ByteArray) : Nat := if 8000 < s.size then 0 else foldN (rawSum s.data.toList)
theorem sumAns_le (s : ByteArray) : sumAns s ≤ 65535 := by unfold sumAns; split; omega; exact foldN_le _
/-- a word -/
def wordB (z : Int) : Bool := decide (0 ≤ z) && decide (z ≤ 65535)
theorem wordB_iff {z : Int} : wordB z = true ↔ 0 ≤ z ∧ z ≤ 65535 := by simp [wordB]
/-- what CheckOf, SumAdd and CheckTurn are to answer -/
def checkAns (s : ByteArray) : Int := if 8000 < s.size then 0 else 65535 - (sumAns s : Int)
def addAns (a b : Int) : Int := if wordB a = true ∧ wordB b = true then (foldN (a + b).toNat : Int) else -1
def turnAns (c a b : Int) : Int := if wordB c = true ∧ wordB a = true ∧ wordB b = true then 65535 - (foldN (65535 - c + (65535 - a) + b).toNat : Int) else -1
def wordT (n : Int) : ByteArray := if wordB n = true then ⟨#[UInt8.ofNat (n.toNat / 256), UInt8.ofNat (n.toNat % 256)]⟩ else ⟨#[]⟩
theorem ofInt_i64 (a : Nat) (ha : a < 9223372036854775808) : (BitVec.ofInt 64 (a : Int)).toNat = a := by
  rw [BitVec.ofInt_natCast, BitVec.toNat_ofNat]; exact Nat.mod_eq_of_lt (by omega)
theorem i64_and_nat (a b : Nat) (ha : a < 9223372036854775808) (hb : b < 9223372036854775808) : bits .and .i64 (a : Int) (b : Int) = ((a &&& b : Nat) : Int) := by
  have hx : a &&& b < 2 ^ 63 := Nat.and_lt_two_pow _ (by omega)
  show IntKind.i64.wrap ((BitVec.ofInt 64 (a : Int) &&& BitVec.ofInt 64 (b : Int)).toNat : Int) = _
  rw [BitVec.toNat_and, ofInt_i64 a ha, ofInt_i64 b hb]
  exact IntWalk.i64_in _ (by omega)
theorem i64_or_nat (a b : Nat) (ha : a < 9223372036854775808) (hb : b < 9223372036854775808) : bits .or .i64 (a : Int) (b : Int) = ((a ||| b : Nat) : Int) := by
  have hx : a ||| b < 2 ^ 63 := Nat.or_lt_two_pow (by omega) (by omega)
  show IntKind.i64.wrap ((BitVec.ofInt 64 (a : Int) ||| BitVec.ofInt 64 (b : Int)).toNat : Int) = _
  rw [BitVec.toNat_or, ofInt_i64 a ha, ofInt_i64 b hb]
  exact IntWalk.i64_in _ (by omega)
theorem i64_low16 (n : Nat) (h : n < 9223372036854775808) : bits BinOp.and IntKind.i64 (n : Int) 65535 = ((n % 65536 : Nat) : Int) := by
  have := i64_and_nat n 65535 h (by omega)
  rw [show n &&& 65535 = n % 65536 from Nat.and_two_pow_sub_one_eq_mod n 16] at this
  exact this
theorem i64_join8 (a b : Nat) (ha : a < 256) (hb : b < 256) : bits BinOp.or IntKind.i64 ((a : Int) * 256) (b : Int) = ((256 * a + b : Nat) : Int) := by
  have := i64_or_nat (a * 256) b (by omega) (by omega)
  rw [nat_join 8 (a * 256) b (by omega) (by omega)] at this
  rw [show ((a : Int) * 256) = ((a * 256 : Nat) : Int) from by omega, this]
  omega
end Go.Proofs.Ytpcflfhblomcoaa
