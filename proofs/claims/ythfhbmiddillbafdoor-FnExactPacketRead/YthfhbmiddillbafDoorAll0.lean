/- Proved here: plain facts on sums: a sum folded into a word, the words of a text added up, a check that turns; and two facts on the bits of int64 (no program of its own). · Proved here: spec.l02Fold and impl.foldSum answer a sum folded into a word, and leave memory alone (condition: it is at most 2^62). · Proved here: spec.l03Word and spec.l03Long answer the number of two, of four bytes at a place of a text; memory stays (condition: the bytes are there). · Proved here: spec.l02Is and spec.l02Word answer whether a number lies there, and leave memory alone (no conditions). · Proved here: impl.areWords answers whether all of a row are words, and leaves memory alone (condition: at most 1000 of them). · Proved here: small facts on byte slices of a call's own: what is written stays, a byte appended, the slice turned into a string. · Proved here: strings.Clone returns its text, and leaves all old memory alone (condition: at most 2^40 bytes). · Proved here: impl.numberAt answers the number of so many bytes at a place, those behind the text's end as 0, and changes nothing; impl.behindOf answers what stands behind so many bytes, all old memory stays (conditions: nothing is too great). · Proved here: nothing of a program: what a right packet is, and its bytes, as plain functions. -/
import Derived.Test.YthfhbmiddillbafDoorRows
import Derived.WalkKit
import Derived.WalkSpells
import Derived.ProofKit
import Derived.OpenShut
import Derived.ShutString
import Derived.Handy
import Derived.Below
import Derived.Laws.BitsAllLaws
import Derived.BigRegion
import Derived.BigQuiet
import Derived.Deep.QuietTactic
import Derived.Laws.IdiomStrings
import Derived.Lib.BufferWrite
import Derived.Laws.CopyOwn
import Derived.Deep.OwnRows
section
namespace Go.Proofs.YthfhbmiddillbafDoor
open Go.ChangeShapes Go.WideShapes Go.ChangeAt Go.RowKit
open Go.ChangeMaps (open_string shut_string)
set_option linter.unusedVariables false

/-- a sum folded into a word -/
def foldN (n : Nat) : Nat := if n = 0 then 0 else (n - 1) % 65535 + 1
theorem foldN_le (n : Nat) : foldN n ≤ 65535 := by unfold foldN; split <;> omega
theorem foldN_word {n : Nat} (h : n ≤ 65535) : foldN n = n := by unfold foldN; split <;> omega
theorem foldN_step {n : Nat} (h : 65535 < n) : foldN (n % 65536 + n / 65536) = foldN n := by unfold foldN; rw [if_neg (by omega), if_neg (by omega)]; omega
theorem foldN_down {n : Nat} (h : 65535 < n) : n % 65536 + n / 65536 < n := by omega
theorem foldN_zero {n : Nat} : foldN n = 0 ↔ n = 0 := by unfold foldN; split <;> omega
theorem foldN_add (a b : Nat) : foldN (foldN a + foldN b) = foldN (a + b) := by
  unfold foldN
  by_cases ha : a = 0
  · subst ha
    by_cases hb : b = 0
    · subst hb; rfl
    · simp only [hb, if_false, if_true, Nat.zero_add]
      rw [if_neg (by omega)]
      omega
  · by_cases hb : b = 0
    · subst hb
      simp only [ha, if_false, if_true, Nat.add_zero]
      rw [if_neg (by omega)]
      omega
    · simp only [ha, hb, if_false]
      rw [if_neg (by omega), if_neg (by omega)]
      omega
theorem foldN_pos {n : Nat} (h : n ≠ 0) : foldN n = (n - 1) % 65535 + 1 := if_neg h
/-- a text with its check behind it -/
theorem foldN_good (a : Nat) : foldN (a + (65535 - foldN a)) = 65535 := by
  by_cases ha : a = 0
  · subst ha; rfl
  · have h1 := foldN_pos ha
    have h2 := foldN_le a
    rw [foldN_pos (by omega)]
    omega
/-- a check that turns with a word -/
theorem foldN_turn {a y z : Nat} (ha : a ≠ 0) (hy : y ≤ 65535) : foldN (65535 - (65535 - foldN (a + y)) + (65535 - y) + z) = foldN (a + z) := by
  have h1 := foldN_pos (n := a + y) (by omega)
  have h2 := foldN_le (a + y)
  rw [foldN_pos (n := a + z) (by omega), foldN_pos (by omega)]
  omega

/-- the words of a text added up -/
def rawSum : List UInt8 → Nat
  | [] => 0
  | [a] => 256 * a.toNat
  | a :: b :: l => 256 * a.toNat + b.toNat + rawSum l
theorem rawSum_two (a b : UInt8) (l : List UInt8) : rawSum (a :: b :: l) = 256 * a.toNat + b.toNat + rawSum l := rfl
theorem rawSum_app (k : Nat) : ∀ (l m : List UInt8), l.length = 2 * k → rawSum (l ++ m) = rawSum l + rawSum m := by
  induction k with
  | zero => intro l m h; obtain rfl : l = [] := List.length_eq_zero_iff.1 (by omega); simp [rawSum]
  | succ k ih =>
    intro l m h
    match l, h with
    | a :: b :: l, h =>
      have := ih l m (by simp at h; omega)
      simp only [List.cons_append, rawSum_two, this]
      omega
theorem rawSum_le : ∀ (n : Nat) (l : List UInt8), l.length ≤ n → rawSum l ≤ 65535 * l.length
  | 0, l, h => by obtain rfl : l = [] := List.length_eq_zero_iff.1 (by omega); simp [rawSum]
  | 1, l, h => by
    match l, h with
    | [], _ => simp [rawSum]
    | [a], _ => have := a.toNat_lt; simp [rawSum]; omega
  | n + 2, l, h => by
    match l, h with
    | [], _ => simp [rawSum]
    | [a], _ => have := a.toNat_lt; simp [rawSum]; omega
    | a :: b :: l, h =>
      have := rawSum_le n l (by simp at h; omega)
      have := a.toNat_lt
      have := b.toNat_lt
      rw [rawSum_two, List.length_cons, List.length_cons]
      omega
/-- the word at place i -/
theorem rawSum_step2 (l : List UInt8) (k : Nat) (h : 2 * k + 1 < l.length) : rawSum (l.take (2 * (k + 1))) = rawSum (l.take (2 * k)) + (256 * l[2 * k].toNat + l[2 * k + 1].toNat) := by
  have e : l.take (2 * (k + 1)) = l.take (2 * k) ++ [l[2 * k], l[2 * k + 1]] := by
    rw [show 2 * (k + 1) = 2 * k + 1 + 1 from by omega, List.take_succ_eq_append_getElem h, List.take_succ_eq_append_getElem (show 2 * k < l.length by omega), List.append_assoc]
    rfl
  rw [e, rawSum_app k _ _ (by simp; omega)]
  simp [rawSum]
theorem rawSum_step1 (l : List UInt8) (k : Nat) (h : 2 * k + 1 = l.length) : rawSum (l.take (2 * (k + 1))) = rawSum (l.take (2 * k)) + 256 * (l[2 * k]'(by omega)).toNat := by
  have e : l.take (2 * (k + 1)) = l.take (2 * k) ++ [l[2 * k]'(by omega)] := by
    rw [List.take_of_length_le (by omega), ← List.take_succ_eq_append_getElem (by omega), List.take_of_length_le (by omega)]
  rw [e, rawSum_app k _ _ (by simp; omega)]
  simp [rawSum]

/-- the word of that number in a text -/
def wordN (l : List UInt8) (k : Nat) : Nat := rawSum ((l.drop (2 * k)).take 2)
theorem rawSum_word (l : List UInt8) (k : Nat) (h : 2 * k < l.length) : rawSum (l.take (2 * (k + 1))) = rawSum (l.take (2 * k)) + wordN l k := by
  rw [show 2 * (k + 1) = 2 * k + 2 from by omega, List.take_add, rawSum_app k _ _ (by simp; omega)]
  rfl
theorem wordN_two (l : List UInt8) (k : Nat) (h : 2 * k + 1 < l.length) : wordN l k = 256 * l[2 * k].toNat + l[2 * k + 1].toNat := by
  have h1 := rawSum_step2 l k h
  have h2 := rawSum_word l k (by omega)
  omega
theorem wordN_one (l : List UInt8) (k : Nat) (h : 2 * k + 1 = l.length) : wordN l k = 256 * (l[2 * k]'(by omega)).toNat := by
  have h1 := rawSum_step1 l k h
  have h2 := rawSum_word l k (by omega)
  omega
theorem wordN_le (l : List UInt8) (k : Nat) : wordN l k ≤ 65535 * 2 := by
  have h1 := rawSum_le 2 ((l.drop (2 * k)).take 2) (by simp; omega)
  have h2 : ((l.drop (2 * k)).take 2).length ≤ 2 := by simp; omega
  unfold wordN
  omega
/-- what SumOf is to answer -/
def sumAns (s : ByteArray) : Nat := if 8000 < s.size then 0 else foldN (rawSum s.data.toList)
theorem sumAns_le (s : ByteArray) : sumAns s ≤ 65535 := by unfold sumAns; split; omega; exact foldN_le _
/-- a word -/
def wordB (z : Int) : Bool := decide (0 ≤ z) && decide (z ≤ 65535)
theorem wordB_iff {z : Int} : wordB z = true ↔ 0 ≤ z ∧ z ≤ 65535 := by simp [wordB]
/-- what CheckOf, SumAdd and CheckTurn are to answer -/
def checkAns (s : ByteArray) : Int := if 8000 < s.size then 0 else 65535 - (sumAns s : Int)
def addAns (a b : Int) : Int := if wordB a = true ∧ wordB b = true then (foldN (a + b).toNat : Int) else -1
def turnAns (c a b : Int) : Int := if wordB c = true ∧ wordB a = true ∧ wordB b = true then 65535 - (foldN (65535 - c + (65535 - a) + b).toNat : Int) else -1
def wordT (n : Int) : ByteArray := if wordB n = true then ⟨#[UInt8.ofNat (n.toNat / 256), UInt8.ofNat (n.toNat % 256)]⟩ else ⟨#[]⟩
theorem ofInt_i64 (a : Nat) (ha : a < 9223372036854775808) : (BitVec.ofInt 64 (a : Int)).toNat = a := by
  rw [BitVec.ofInt_natCast, BitVec.toNat_ofNat]; exact Nat.mod_eq_of_lt (by omega)
theorem i64_and_nat (a b : Nat) (ha : a < 9223372036854775808) (hb : b < 9223372036854775808) : bits .and .i64 (a : Int) (b : Int) = ((a &&& b : Nat) : Int) := by
  have hx : a &&& b < 2 ^ 63 := Nat.and_lt_two_pow _ (by omega)
  show IntKind.i64.wrap ((BitVec.ofInt 64 (a : Int) &&& BitVec.ofInt 64 (b : Int)).toNat : Int) = _
  rw [BitVec.toNat_and, ofInt_i64 a ha, ofInt_i64 b hb]
  exact IntWalk.i64_in _ (by omega)
theorem i64_or_nat (a b : Nat) (ha : a < 9223372036854775808) (hb : b < 9223372036854775808) : bits .or .i64 (a : Int) (b : Int) = ((a ||| b : Nat) : Int) := by
  have hx : a ||| b < 2 ^ 63 := Nat.or_lt_two_pow (by omega) (by omega)
  show IntKind.i64.wrap ((BitVec.ofInt 64 (a : Int) ||| BitVec.ofInt 64 (b : Int)).toNat : Int) = _
  rw [BitVec.toNat_or, ofInt_i64 a ha, ofInt_i64 b hb]
  exact IntWalk.i64_in _ (by omega)
theorem i64_low16 (n : Nat) (h : n < 9223372036854775808) : bits BinOp.and IntKind.i64 (n : Int) 65535 = ((n % 65536 : Nat) : Int) := by
  have := i64_and_nat n 65535 h (by omega)
  rw [show n &&& 65535 = n % 65536 from Nat.and_two_pow_sub_one_eq_mod n 16] at this
  exact this
theorem i64_join8 (a b : Nat) (ha : a < 256) (hb : b < 256) : bits BinOp.or IntKind.i64 ((a : Int) * 256) (b : Int) = ((256 * a + b : Nat) : Int) := by
  have := i64_or_nat (a * 256) b (by omega) (by omega)
  rw [nat_join 8 (a * 256) b (by omega) (by omega)] at this
  rw [show ((a : Int) * 256) = ((a * 256 : Nat) : Int) from by omega, this]
  omega
end Go.Proofs.YthfhbmiddillbafDoor
end

section
namespace Go.Proofs.YthfhbmiddillbafDoor
open Go.ChangeShapes Go.WideShapes Go.ChangeAt Go.RowKit
open Go.ChangeMaps (open_string shut_string)
set_option linter.unusedVariables false

theorem ret_intS {k : IntKind} {a b : Int} (h : a = b) : Ending.returned (.int k a) = .returned (.int k b) := by rw [h]
theorem val_intS {k : IntKind} {a b : Int} (h : a = b) : Value.int k a = .int k b := by rw [h]
theorem hidS {q : Prop} (h : q) : Hid q := h
theorem w64_small {n : Nat} (h : n < 256) : wrap64 (n : Int) = n := by unfold wrap64; omega
theorem l02Fold_any (n : Nat) (w : World) (hn : n ≤ 4611686018427387904) :
    Calls Tryd.prog 58 #[.int .i64 n] w fun e w' => e = .returned (.int .i64 (foldN n : Nat)) ∧ w' = w := by
  go_enter Tryd.func58, Tryd.ntmps58
  go_wp2
  go_loop [0] (fun v => ∃ x : Nat, v = .int .i64 x ∧ (x : Int) ≤ 4611686018427387904 ∧ Hid (foldN x = foldN n)) (fun v => (intOf v).toNat)
  case atStart => exact ⟨n, rfl, by omega, rfl⟩
  case round =>
    obtain ⟨x, rfl, hx, hX⟩ := hrel
    by_cases h : 65535 < x
    · have hX' : Hid (foldN (x % 65536 + x / 65536) = foldN n) := by rw [foldN_step h]; exact hX
      clear hX
      go_wp2
      go_round
      case rel => exact ⟨x % 65536 + x / 65536, by go_num, by omega, hX'⟩
      case measure => simp [intOf]; omega
    · have hE : Hid (x = foldN n) := by rw [← hX.out, foldN_word (by omega)]; rfl
      clear hX
      go_wp2
      go_ret
      exact ⟨ret_intS (by rw [← hE.out]), rfl⟩
theorem foldSum_any (n : Nat) (w : World) (hn : n ≤ 4611686018427387904) :
    Calls Tryd.prog 79 #[.int .i64 n] w fun e w' => e = .returned (.int .i64 (foldN n : Nat)) ∧ w' = w := by
  go_enter Tryd.func79, Tryd.ntmps79
  go_wp2
  go_loop [0] (fun v => ∃ x : Nat, v = .int .i64 x ∧ (x : Int) ≤ 4611686018427387904 ∧ Hid (foldN x = foldN n)) (fun v => (intOf v).toNat)
  case atStart => exact ⟨n, rfl, by omega, rfl⟩
  case round =>
    obtain ⟨x, rfl, hx, hX⟩ := hrel
    by_cases h : 65535 < x
    · have hX' : Hid (foldN (x % 65536 + x / 65536) = foldN n) := by rw [foldN_step h]; exact hX
      have hb := i64_low16 x (by omega)
      clear hX
      go_wp2
      go_round
      case rel => exact ⟨x % 65536 + x / 65536, by go_num, by omega, hX'⟩
      case measure => simp [intOf]; omega
    · have hE : Hid (x = foldN n) := by rw [← hX.out, foldN_word (by omega)]; rfl
      clear hX
      go_wp2
      go_ret
      exact ⟨ret_intS (by rw [← hE.out]), rfl⟩
end Go.Proofs.YthfhbmiddillbafDoor
end

section
namespace Go.Proofs.YthfhbmiddillbafDoor
open Go.ChangeShapes Go.WideShapes Go.ChangeAt Go.RowKit
set_option linter.unusedVariables false

/-- the byte at a place -/
def byteN (s : ByteArray) (k : Nat) : Nat := (s.data.getD k 0).toNat
theorem byteN_lt (s : ByteArray) (k : Nat) : byteN s k < 256 := UInt8.toNat_lt _
theorem byteN_get {s : ByteArray} {k : Nat} (h : k < s.size) : s[k].toNat = byteN s k := by
  unfold byteN
  rw [Array.getD_eq_getD_getElem?, Array.getElem?_eq_getElem (by simpa using h)]
  rfl
/-- the number of two, of four bytes at a place -/
def word2 (s : ByteArray) (k : Nat) : Nat := 256 * byteN s k + byteN s (k + 1)
def word4 (s : ByteArray) (k : Nat) : Nat := 65536 * word2 s k + word2 s (k + 2)
theorem word2_lt (s : ByteArray) (k : Nat) : word2 s k < 65536 := by have := byteN_lt s k; have := byteN_lt s (k + 1); unfold word2; omega
theorem word4_lt (s : ByteArray) (k : Nat) : word4 s k < 4294967296 := by have := word2_lt s k; have := word2_lt s (k + 2); unfold word4; omega

theorem l03Word_any (s : ByteArray) (k : Nat) (w : World) (hk : k + 1 < s.size) (hs : s.size ≤ 8000) :
    Calls Tryd.prog 23 #[.string s, .int .i64 (k : Int)] w fun e w' => e = .returned (.int .i64 (word2 s k : Nat)) ∧ Below w.heap.size w w' := by
  have hk' : (k : Int) + 1 < (s.size : Int) := by omega
  have hs' : (s.size : Int) ≤ 8000 := by omega
  have b1 : s[k].toNat < 256 := s[k].toNat_lt
  have b2 : s[k + 1].toNat < 256 := s[k + 1].toNat_lt
  have e : Hid ((256 : Int) * (s[k].toNat : Int) + (s[k + 1].toNat : Int) = ((word2 s k : Nat) : Int)) := by
    rw [byteN_get (by omega), byteN_get hk]; unfold word2 Hid; omega
  have t1 : ((k : Int) + 1).toNat = k + 1 := by omega
  have t2 : k < s.size := by omega
  have t3 : (k : Int) < (s.size : Int) := by omega
  have t4 : (0 : Int) ≤ (k : Int) + 1 := by omega
  go_enter Tryd.func23, Tryd.ntmps23
  go_wp2
  go_region
  go_wp2
  go_ret
  exact ⟨by rw [← e.out]; rfl, (Below.refl _ _).drew⟩

theorem l03Long_any (s : ByteArray) (k : Nat) (w : World) (hk : k + 3 < s.size) (hs : s.size ≤ 8000) :
    Calls Tryd.prog 22 #[.string s, .int .i64 (k : Int)] w fun e w' => e = .returned (.int .i64 (word4 s k : Nat)) ∧ Below w.heap.size w w' := by
  have hk' : (k : Int) + 3 < (s.size : Int) := by omega
  have hs' : (s.size : Int) ≤ 8000 := by omega
  have l1 := word2_lt s k
  have l2 := word2_lt s (k + 2)
  have e : Hid ((65536 : Int) * (word2 s k : Int) + (word2 s (k + 2) : Int) = ((word4 s k : Nat) : Int)) := by unfold word4 Hid; omega
  go_enter Tryd.func22, Tryd.ntmps22
  go_wp2_with fail
  refine (l03Word_any s k _ (by omega) hs).mono ?_
  rintro _ w1 ⟨rfl, hb1⟩
  go_wp2_with fail
  refine (l03Word_any s (k + 2) _ (by omega) hs).mono ?_
  rintro _ w2 ⟨rfl, hb2⟩
  have hB := hidS (hb1.trans (hb2.mono hb1.size))
  clear hb1 hb2
  go_wp2
  go_ret
  exact ⟨by rw [← e.out]; rfl, hB.out⟩
end Go.Proofs.YthfhbmiddillbafDoor
end

section
namespace Go.Proofs.YthfhbmiddillbafDoor
open Go.ChangeShapes Go.WideShapes Go.ChangeAt Go.RowKit
open Go.ChangeMaps (open_string shut_string)
set_option linter.unusedVariables false

theorem l02Is_any (n lo hi : Int) (w : World) :
    Calls Tryd.prog 25 #[.int .i64 n, .int .i64 lo, .int .i64 hi] w fun e w' => e = .returned (.bool (decide (lo ≤ n) && decide (n ≤ hi))) ∧ w' = w := by
  by_cases h1 : lo ≤ n
  · by_cases h2 : n ≤ hi
    · go_enter Tryd.func25, Tryd.ntmps25
      go_wp2
      go_ret
      exact ⟨by simp [h1, h2], rfl⟩
    · go_enter Tryd.func25, Tryd.ntmps25
      go_wp2
      go_ret
      exact ⟨by simp [h2], rfl⟩
  · go_enter Tryd.func25, Tryd.ntmps25
    go_wp2
    go_ret
    exact ⟨by simp; omega, rfl⟩
theorem l02Word_any (n : Int) (w : World) :
    Calls Tryd.prog 24 #[.int .i64 n] w fun e w' => e = .returned (.bool (wordB n)) ∧ w' = w := by
  go_enter Tryd.func24, Tryd.ntmps24
  go_wp2_with fail
  refine (l02Is_any n 0 65535 _).mono ?_
  rintro e w1 ⟨rfl, rfl⟩
  go_wp2
  go_ret
  exact ⟨rfl, rfl⟩
end Go.Proofs.YthfhbmiddillbafDoor
end

section
namespace Go.Proofs.YthfhbmiddillbafDoor
open Go.ChangeShapes Go.WideShapes Go.ChangeAt Go.RowKit
open Go.ChangeMaps (open_string shut_string)
set_option linter.unusedVariables false

/-- all of them are words -/
def allW (zs : List Int) : Bool := zs.all wordB
theorem all_take_succ (zs : List Int) (k : Nat) (h : k < zs.length) : allW (zs.take (k + 1)) = (allW (zs.take k) && wordB zs[k]) := by
  unfold allW; rw [List.take_succ_eq_append_getElem h, List.all_append]; simp
theorem all_bad (zs : List Int) (k : Nat) (h : k < zs.length) (hb : wordB zs[k] = false) : allW zs = false := by
  cases e : allW zs
  · rfl
  · have := List.all_eq_true.1 e zs[k] (List.getElem_mem h); rw [hb] at this; cases this
set_option maxHeartbeats 400000 in
theorem areWords_any (g : Nat) (zs : List Int) (w : World) (hc : ∀ j, (h : j < zs.length) → w.cell? ⟨g, j, none⟩ = some (.int .i64 zs[j])) (hl : zs.length ≤ 1000) :
    Calls Tryd.prog 65 #[.slice (some ⟨g, 0, none⟩) zs.length zs.length] w fun e w' => e = .returned (.bool (allW zs)) ∧ w' = w := by
  have HC := hidS hc
  clear hc
  go_enter Tryd.func65, Tryd.ntmps65
  go_wp2
  go_loop [7] (fun i => ∃ k : Nat, k ≤ zs.length ∧ i = .int .i64 k ∧ Hid (allW (zs.take k) = true)) (fun i => zs.length - (intOf i).toNat)
  case atStart => exact ⟨0, by omega, rfl, rfl⟩
  case round =>
    obtain ⟨k, hk, rfl, hX⟩ := hrel
    by_cases h : k < zs.length
    · have h' : (k : Int) < (zs.length : Int) := by omega
      have hck := HC.out k h
      have hA := hidS (all_bad zs k h)
      have hB : Hid (wordB zs[k] = true → allW (zs.take (k + 1)) = true) := by intro q; rw [all_take_succ zs k h, hX.out, q]; rfl
      generalize zs[k] = z at *
      clear hX
      by_cases h1 : z < 0
      · have hE : Hid (allW zs = false) := hA.out (by simp [wordB]; omega)
        clear hA hB
        go_wp2
        go_ret
        exact ⟨by rw [hE.out]; rfl, rfl⟩
      · by_cases h2 : 65535 < z
        · have hE : Hid (allW zs = false) := hA.out (by simp [wordB]; omega)
          clear hA hB
          go_wp2
          go_ret
          exact ⟨by rw [hE.out]; rfl, rfl⟩
        · have hE := hidS (hB.out (by simp [wordB]; omega))
          clear hA hB
          go_wp2
          go_round
          case rel => exact ⟨k + 1, by omega, by go_num, hE⟩
          case measure => simp [intOf]; omega
    · have hE : Hid (allW zs = true) := by have := hX.out; rw [List.take_of_length_le (by omega)] at this; exact this
      clear hX
      go_wp2
      go_ret
      exact ⟨by rw [hE.out]; rfl, rfl⟩
theorem two_cells (W : World) (a b : Int) (t : TypeId) : ∀ j, (h : j < [a, b].length) → (W.alloc (.cells #[.int .i64 a, .int .i64 b] t)).cell? ⟨W.heap.size, j, none⟩ = some (.int .i64 [a, b][j]) := by
  intro j hj
  rcases (by simp at hj; omega : j = 0 ∨ j = 1) with rfl | rfl <;> simp
theorem three_cells (W : World) (a b c : Int) (t : TypeId) : ∀ j, (h : j < [a, b, c].length) → (W.alloc (.cells #[.int .i64 a, .int .i64 b, .int .i64 c] t)).cell? ⟨W.heap.size, j, none⟩ = some (.int .i64 [a, b, c][j]) := by
  intro j hj
  rcases (by simp at hj; omega : j = 0 ∨ j = 1 ∨ j = 2) with rfl | rfl | rfl <;> simp
theorem one_cell (W : World) (a : Int) (t : TypeId) : ∀ j, (h : j < [a].length) → (W.alloc (.cells #[.int .i64 a] t)).cell? ⟨W.heap.size, j, none⟩ = some (.int .i64 [a][j]) := by
  intro j hj
  obtain rfl : j = 0 := by simp at hj; omega
  simp
end Go.Proofs.YthfhbmiddillbafDoor
end

section
namespace Go.Proofs.YthfhbmiddillbafDoor
open Go.ChangeShapes Go.WideShapes Go.ChangeAt Go.RowKit
open Go.ChangeMaps (open_string shut_string)
set_option linter.unusedVariables false

theorem ret_int' {k : IntKind} {a b : Int} (h : a = b) : Ending.returned (.int k a) = .returned (.int k b) := by rw [h]
theorem val_int' {k : IntKind} {a b : Int} (h : a = b) : Value.int k a = .int k b := by rw [h]

def bytesV (l : List UInt8) : List Value := l.map fun c => .int .u8 (c.toNat : Int)
theorem bytesV_snoc (l : List UInt8) (c : UInt8) : bytesV (l ++ [c]) = bytesV l ++ [.int .u8 (c.toNat : Int)] := by simp [bytesV]

theorem Tryd.infoU8 : (Tryd.prog.info? 5).map (fun i => (i.zero, i.size, i.bytes)) = some (some (.int .u8 0), 1, 1) := by kernel_rfl

theorem heap_new (w : World) (o : Obj) : (w.alloc o).heap[w.heap.size]? = some o := by show (w.heap.push o)[w.heap.size]? = _; simp

/-- a slice that owns the bytes l, as a string -/
theorem conv_own {w : World} {B : Nat} {v : Value} {l : List UInt8} (h : w.ownsRow B 5 1 v l.length (bytesV l)) :
    (convert 60 9 v).run Tryd.prog w = .ok (.string ⟨l.toArray⟩) w := by
  have h0 := h
  rcases h.2 with ⟨rfl, hn⟩ | ⟨g, cap, cur, rfl, hg, hh, hnc, hcp, hcs, htake⟩
  · obtain rfl : l = [] := List.length_eq_zero_iff.1 hn
    rw [run_convert_bytes_string w 60 9 5 none 0 0 Tryd.underlying60 Tryd.underlying5 Tryd.underlying9]
    simp [Conv.bytesToString]
    rfl
  · exact run_convert_bytes_back (P := Tryd.prog) w 60 9 5 ⟨g, 0, none⟩ cap l Tryd.underlying60 Tryd.underlying5 Tryd.underlying9 (fun j hj => by
      rw [Addr.add_lit, Nat.zero_add, h0.cellAt j (by omega)]
      simp [bytesV, hj])

theorem own_snoc {w : World} {B : Nat} {v : Value} {l : List UInt8} {c : UInt8} {x : Int} (hx : x = (c.toNat : Int)) (h : w.ownsRow B 5 1 v (l.length + 1) (bytesV l ++ [.int .u8 x])) :
    w.ownsRow B 5 1 v (l ++ [c]).length (bytesV (l ++ [c])) := by
  rw [bytesV_snoc, List.length_append, ← hx]; exact h

/-- behind a byte that was appended to a slice of the call's own -/
theorem below_app {B : Nat} {w wr w1 : World} {v : Value} {n : Nat} {xs : List Value} {o : Obj} (hbel : Below B w wr) (hB : B ≤ wr.heap.size) (hown : wr.ownsRow B 5 1 v n xs) (hg : (wr.alloc o).grownBy w1 v.ownBlock) : Below B w w1 :=
  (hbel.alloc hB o).grown hg (by simp; omega) (fun k hk => (hown.lt k hk).1)
end Go.Proofs.YthfhbmiddillbafDoor
end

section
namespace Go.Proofs.YthfhbmiddillbafDoor
open Go.ChangeShapes Go.WideShapes Go.ChangeAt Go.RowKit
open Go.ChangeMaps (open_string shut_string)
set_option linter.unusedVariables false

theorem cell_of_heap {w : World} {g : Nat} {cs : Array Value} {e : TypeId} {fr : Nat × Nat} (h : w.heap[g]? = some (.cells cs e fr)) (j : Nat) : w.cell? ⟨g, j, none⟩ = cs[j]? := by
  simp [World.cell?, h]
theorem shape_of_heap {w : World} {g : Nat} {cs : Array Value} {e : TypeId} {fr : Nat × Nat} (h : w.heap[g]? = some (.cells cs e fr)) : w.shape? g = some (e, cs.size) := by
  simp [World.shape?, h]

set_option maxRecDepth 100000 in
theorem cloneIn_any (s : ByteArray) (w : World) (hs : s.size ≤ 1099511627776) :
    Calls Tryd.prog 73 #[.string s] w fun e w' => e = .returned (.string s) ∧ Below w.heap.size w w' := by
  by_cases h : s.size = 0
  · have hE : s = ⟨#[]⟩ := ByteArray.ext (Array.eq_empty_of_size_eq_zero h)
    subst hE
    go_enter Tryd.func73, Tryd.ntmps73
    go_wp2
    go_ret
    exact ⟨rfl, Below.refl _ _⟩
  · have h' : ((s.size : Int) == 0) = false := beq_eq_false_iff_ne.2 (by omega)
    have hpos : 0 < s.size := by omega
    have hmk : ∀ W, (Instr.makeSlice 60 (.int .i64 (s.size : Int)) (.int .i64 (s.size : Int))).run Tryd.prog W = .ok (.slice (some ⟨W.heap.size, 0, none⟩) s.size s.size) (W.alloc (.cells (madeCells #[.int .u8 0] s.size) 5)) := fun W =>
      run_make_row' (P := Tryd.prog) 60 5 (.int .u8 0) 1 Tryd.underlying60 Tryd.infoU8 rfl .i64 .i64 s.size (by omega) (by omega) W
    have hsl : s.data.toList.length = s.size := by simp
    have hg0 := heap_new w (.cells (madeCells #[.int .u8 0] s.size) 5)
    have hr1 := Lib.run_copy_row_string (P := Tryd.prog) (w.alloc (.cells (madeCells #[.int .u8 0] s.size) 5)) 60 9 3 5 w.heap.size 0 s.size s.size s _ 5 Tryd.underlying60 (by kernel_rfl) hg0 (Nat.le_refl _) (by rw [size_madeCells]; omega)
    have hrow : ((madeCells #[Value.int .u8 0] s.size).toList.take 0 ++ Lib.byteCells s.data.toList ++ (madeCells #[Value.int .u8 0] s.size).toList.drop (0 + s.size)).toArray = (Lib.byteCells s.data.toList).toArray := by
      rw [List.drop_of_length_le (by rw [Array.length_toList, size_madeCells]; omega)]
      simp
    rw [hrow] at hr1
    have hg1 := setRow_heap _ w.heap.size _ (Lib.byteCells s.data.toList).toArray _ _ hg0
    have hbel1 : Below w.heap.size w ((w.alloc (.cells (madeCells #[.int .u8 0] s.size) 5)).setRow w.heap.size (Lib.byteCells s.data.toList).toArray) := below_setRow ((Below.refl _ _).alloc (Nat.le_refl _) _) (Nat.le_refl _) _
    generalize (w.alloc (.cells (madeCells #[.int .u8 0] s.size) 5)).setRow w.heap.size (Lib.byteCells s.data.toList).toArray = w1 at hr1 hg1 hbel1
    have hus := Lib.run_unsafeString_row (P := Tryd.prog) (w := w1) 92 3 9 5 Tryd.underlying92 (by kernel_rfl) w.heap.size _ (shape_of_heap hg1) s.data.toList (by intro e; rw [e] at hsl; simp at hsl; omega) (by simp [Lib.byteCells]) (by omega) (fun j x hx => by
      rw [Addr.add_lit, Nat.zero_add, cell_of_heap hg1]
      simp [Lib.byteCells, hx])
    rw [hsl] at hus
    have hbel2 := Lib.below_freeze hbel1 (p := ⟨w.heap.size, 0, none⟩) (Nat.le_refl _) s.size
    clear hg0 hg1 hrow hsl hbel1
    go_enter Tryd.func73, Tryd.ntmps73
    go_wp2
    go_ret
    exact ⟨rfl, hbel2⟩

theorem clone_any (s : ByteArray) (w : World) (hs : s.size ≤ 1099511627776) :
    Calls Tryd.prog 61 #[.string s] w fun e w' => e = .returned (.string s) ∧ Below w.heap.size w w' := by
  go_enter Tryd.func61, Tryd.ntmps61
  go_wp2_with (go_at_call 73; refine (cloneIn_any _ _ hs).mono ?_; rintro e w1 ⟨rfl, hb1⟩)
  go_ret
  exact ⟨rfl, hb1⟩
end Go.Proofs.YthfhbmiddillbafDoor
end

section
namespace Go.Proofs.YthfhbmiddillbafDoor
open Go.ChangeShapes Go.WideShapes Go.ChangeAt Go.RowKit
open Go.ChangeMaps (open_string shut_string)
set_option linter.unusedVariables false
set_option maxRecDepth 100000

/-- the number of so many bytes -/
def numN (s : ByteArray) (k : Nat) : Nat → Nat
  | 0 => 0
  | i + 1 => 256 * numN s k i + byteN s (k + i)
theorem numN_lt (s : ByteArray) (k : Nat) : ∀ i, numN s k i < 256 ^ i
  | 0 => by simp [numN]
  | i + 1 => by
    have h1 := numN_lt s k i
    have h2 := byteN_lt s (k + i)
    have e : (256 : Nat) ^ (i + 1) = 256 * 256 ^ i := by rw [Nat.pow_succ, Nat.mul_comm]
    rw [e]; unfold numN; omega
theorem numN_small (s : ByteArray) (k i : Nat) (h : i ≤ 3) : numN s k i ≤ 16777215 := by
  have h1 := numN_lt s k i
  have : (256 : Nat) ^ i ≤ 256 ^ 3 := Nat.pow_le_pow_right (by omega) h
  omega
theorem byteN_out {s : ByteArray} {k : Nat} (h : ¬ k < s.size) : byteN s k = 0 := by
  unfold byteN
  have h' : ¬ k < s.data.size := h
  rw [Array.getD, dif_neg h']
  rfl
theorem i64_join (a b : Nat) (ha : a ≤ 16777215) (hb : b < 256) : bits BinOp.or IntKind.i64 ((a : Int) * 256) (b : Int) = ((256 * a + b : Nat) : Int) := by
  have := i64_or_nat (a * 256) b (by omega) (by omega)
  rw [nat_join 8 (a * 256) b (by omega) (by omega)] at this
  rw [show ((a : Int) * 256) = ((a * 256 : Nat) : Int) from by omega, this]
  omega

set_option maxHeartbeats 1000000 in
theorem numberAt_x (s : ByteArray) (k m : Nat) (w : World) (hk : k ≤ 1000) (hm : m ≤ 4) (hs : s.size ≤ 100000) :
    Calls Tryd.prog 45 #[.string s, .int .i64 (k : Int), .int .i64 (m : Int)] w fun e w' => e = .returned (.int .i64 (numN s k m : Nat)) ∧ w' = w := by
  go_enter Tryd.func45, Tryd.ntmps45
  go_wp2
  go_loop [7, 10] (fun v i => ∃ j x : Nat, j ≤ m ∧ i = .int .i64 j ∧ v = .int .i64 x ∧ Hid (x = numN s k j)) (fun _ i => m - (intOf i).toNat)
  case atStart => exact ⟨0, 0, by omega, rfl, rfl, rfl⟩
  case round =>
    obtain ⟨j, x, hj, rfl, rfl, hX⟩ := hrel
    by_cases h : j < m
    · have h' : (j : Int) < (m : Int) := by omega
      have hx : x ≤ 16777215 := by rw [hX.out]; exact numN_small s k j (by omega)
      by_cases hin : k + j < s.size
      · have hin' : (k : Int) + (j : Int) < (s.size : Int) := by omega
        have hb : s[k + j].toNat < 256 := s[k + j].toNat_lt
        have hE : Hid (256 * x + s[k + j].toNat = numN s k (j + 1)) := by show _ = 256 * numN s k j + byteN s (k + j); rw [hX.out, byteN_get hin]
        have hor := hidS (i64_join x s[k + j].toNat hx hb)
        clear hX
        go_wp2
        go_round
        case rel => exact ⟨j + 1, 256 * x + s[k + j].toNat, by omega, by go_num, by rw [← hor.out], hE⟩
        case measure => simp [intOf]; omega
      · have hin' : ¬ (k : Int) + (j : Int) < (s.size : Int) := by omega
        have hE : Hid (x * 256 = numN s k (j + 1)) := by show _ = 256 * numN s k j + byteN s (k + j); rw [hX.out, byteN_out hin]; omega
        clear hX
        go_wp2
        go_round
        case rel => exact ⟨j + 1, x * 256, by omega, by go_num, by go_num, hE⟩
        case measure => simp [intOf]; omega
    · have h' : ¬ (j : Int) < (m : Int) := by omega
      obtain rfl : j = m := by omega
      clear h
      go_wp2
      go_ret
      exact ⟨by rw [hX.out]; rfl, rfl⟩

theorem behindOf_x (s : ByteArray) (k : Nat) (w : World) (hk : k ≤ 1000) (hs : s.size ≤ 100000) :
    Calls Tryd.prog 46 #[.string s, .int .i64 (k : Int)] w fun e w' => e = .returned (.string (s.extract (min k s.size) s.size)) ∧ Below w.heap.size w w' := by
  have hz : (s.extract (min k s.size) s.size).size ≤ 1099511627776 := by rw [ByteArray.size_extract]; omega
  by_cases h : k ≤ s.size
  · have h' : (k : Int) ≤ (s.size : Int) := by omega
    rw [Nat.min_eq_left h] at hz ⊢
    go_enter Tryd.func46, Tryd.ntmps46
    go_wp2_with fail
    refine (clone_any _ _ hz).mono ?_
    rintro _ w1 ⟨rfl, hb1⟩
    go_wp2_with fail
    go_ret
    exact ⟨rfl, hb1⟩
  · have h' : ¬ (k : Int) ≤ (s.size : Int) := by omega
    have h2 : (s.size : Int) ≤ (k : Int) := by omega
    rw [Nat.min_eq_right (by omega)]
    have e : s.extract s.size s.size = ByteArray.empty := by simp
    rw [e]
    clear e hz
    go_enter Tryd.func46, Tryd.ntmps46
    go_wp2_with fail
    refine (clone_any _ _ (by decide)).mono ?_
    rintro _ w1 ⟨rfl, hb1⟩
    go_wp2_with fail
    go_ret
    exact ⟨rfl, hb1⟩
end Go.Proofs.YthfhbmiddillbafDoor
end

section
namespace Go.Proofs.YthfhbmiddillbafDoor
set_option linter.unusedVariables false

/-- a packet -/
structure Pk where
  src : Int
  dst : Int
  proto : Int
  a : Int
  b : Int
  kind : Int
  flags : Int
  seq : Int
  ack : Int
  body : ByteArray
def zeroPk : Pk := ⟨0, 0, 0, 0, 0, 0, 0, 0, 0, ⟨#[]⟩⟩
/-- an address -/
def addrB (z : Int) : Bool := decide (0 ≤ z) && decide (z ≤ 4294967295)
theorem addrB_iff {z : Int} : addrB z = true ↔ 0 ≤ z ∧ z ≤ 4294967295 := by simp [addrB]
/-- flags -/
def flagB (z : Int) : Bool := decide (0 ≤ z) && decide (z ≤ 63)
theorem flagB_iff {z : Int} : flagB z = true ↔ 0 ≤ z ∧ z ≤ 63 := by simp [flagB]
def tcpB (p : Pk) : Bool := wordB p.a && wordB p.b && decide (p.kind = 0) && flagB p.flags && addrB p.seq && addrB p.ack
def udpB (p : Pk) : Bool := wordB p.a && wordB p.b && decide (p.kind = 0) && decide (p.flags = 0) && decide (p.seq = 0) && decide (p.ack = 0)
def pingB (p : Pk) : Bool := decide (p.b = 0) && decide (p.flags = 0) && decide (p.ack = 0) &&
  (if p.kind = 3 then decide (p.a = 0) && decide (p.seq = 0) && decide (28 ≤ p.body.size) else (decide (p.kind = 8) || decide (p.kind = 0)) && wordB p.a && wordB p.seq)
/-- is it right? -/
def rightB (p : Pk) : Bool := addrB p.src && addrB p.dst && decide (p.body.size ≤ 100) &&
  (if p.proto = 6 then tcpB p else if p.proto = 17 then udpB p else if p.proto = 1 then pingB p else false)
end Go.Proofs.YthfhbmiddillbafDoor
end
