/- Proved here: a source of draws is made of any bytes (condition: at most 2^20 bytes, that can be read). · Proved here: drawn bytes are a text of so many bytes; no other memory turns (conditions: at most 2^20 bytes, the source lies in its block). · Proved here: plain facts on sums: a sum folded into a word, the words of a text added up, a check that turns; and two facts on the bits of int64 (no program of its own). · Proved here: small facts for walks: equal numbers return alike (no program of its own). · Proved here: draws of packets answer some address, some text; the source stays one, no other memory turns (condition: the source lies in its block). -/
import Derived.Test.YtilajoafppplcaaSrc
import Derived.Test.YtilajoafppplcaaRows
import Derived.WalkKit
import Derived.WalkSpells
import Derived.ProofKit
import Derived.OpenShut
import Derived.ShutString
import Derived.Handy
import Derived.Below
import Derived.Laws.BitsAllLaws
section
namespace Go.Proofs.Ytilajoafppplcaa
open Go.ChangeShapes Go.WideShapes Go.ChangeAt Go.RowKit
open Go.ChangeMaps (open_string shut_string)
set_option linter.unusedVariables false


theorem Only.grown {B : Nat} {w w' : World} (h : Only B w w') : w.grownBy w' (some B) := ⟨h.os, h.tape, h.output, Nat.le_of_eq h.size.symm, fun k _ hk => h.block k (fun e => hk (by rw [e]))⟩

theorem cellOfHeap {w : World} {g : Nat} {cs : Array Value} {e : TypeId} {fr : Nat × Nat} (h : w.heap[g]? = some (.cells cs e fr)) (j : Nat) : w.cell? ⟨g, j, none⟩ = cs[j]? := by
  simp [World.cell?, h]

theorem srcAtSet2 {B : Nat} {a : Option Addr} {len cap : Nat} {at1 mix sz m : Int} {w : World} (h : SrcAt B a len cap at1 mix sz w) (hm : 0 ≤ m) (hm2 : m ≤ 18446744073709551615) :
    SrcAt B a len cap at1 m sz (w.setCell ⟨B, 2, none⟩ (.int .u64 m)) :=
  ⟨(heap_setCell_same w B 2 _ _ _ h.1).trans rfl, h.2.1, h.2.2.1, hm, hm2⟩
theorem srcAtSet3 {B : Nat} {a : Option Addr} {len cap : Nat} {at1 mix sz s2 : Int} {w : World} (h : SrcAt B a len cap at1 mix sz w) :
    SrcAt B a len cap at1 mix s2 (w.setCell ⟨B, 3, none⟩ (.int .i64 s2)) :=
  ⟨(heap_setCell_same w B 3 _ _ _ h.1).trans rfl, h.2⟩

set_option maxRecDepth 100000 in
set_option maxHeartbeats 2000000 in
attribute [local go_sem] setCell_twice in
theorem source_any (a : Option Addr) (len cap : Nat) (w : World) (hR : RowAt w.heap.size a len w) (hl : len ≤ 1048576) :
    Calls Try.prog 41 #[.slice a len cap] w fun e w' => e = .returned (.pointer (some ⟨w.heap.size, 0, none⟩)) ∧ Src w.heap.size a len cap w' ∧ Below w.heap.size w w' := by
  have hl' : (len : Int) ≤ 1048576 := by omega
  go_enter Try.func41, Try.ntmps41
  go_wp2
  go_loopw [4] (fun i wr => ∃ k : Nat, k ≤ len ∧ k ≤ 64 ∧ i = .int .i64 (k : Int) ∧ (∃ mix, SrcAt w.heap.size a len cap 0 mix 0 wr) ∧ RowAt w.heap.size a len wr ∧ Below w.heap.size w wr ∧ wr.heap.size = w.heap.size + 1) (fun i _ => 64 - (intOf i).toNat)
  case atStart =>
    exact ⟨0, by omega, by omega, rfl, ⟨88172645463325252, heap_new _ _, by omega, by omega, by omega, by omega⟩, hR.below fun k hk => Below.heap_alloc _ _ _ hk, (Below.refl _ _).alloc (Nat.le_refl _) _, by simp⟩
  case round =>
    obtain ⟨k, hk, hk64, rfl, ⟨mix, hA⟩, hRr, hbel, hsz⟩ := hrel
    obtain ⟨c0, c1, c2, c3, f⟩ := srcCells hA
    have f2 := f 2
    have f3 := f 3
    have hm := hA.2.2.2.1
    have hm2 := hA.2.2.2.2
    have HZ : Hid (wr.heap.size = w.heap.size + 1) := hsz
    clear f hsz
    by_cases hlt : k < len
    · by_cases h64 : k < 64
      · obtain ⟨b, o, rfl, hbB, z, hz1, hz2, hc⟩ := hRr k hlt
        have HR : Hid (RowAt w.heap.size (some ⟨b, o, none⟩) len wr) := hRr
        have hlt' : (k : Int) < (len : Int) := by omega
        have h64' : (k : Int) < 64 := by omega
        clear hRr hR
        go_wp2
        go_region
        go_wp2
        go_roundw
        case rel => exact ⟨k + 1, by omega, by omega, by go_num, ⟨_, srcAtSet2 hA (by rw [IntKind.wrap_u64]; omega) (by rw [IntKind.wrap_u64]; omega)⟩, HR.out.below fun j hj => Below.heap_setCell _ _ _ _ (by show j ≠ w.heap.size; omega), (hbel.setCell (Nat.le_refl _) _).drew, by have := HZ.out; simpa [World.setCell] using this⟩
        case measure => simp [intOf]; omega
      · have h64' : ¬ ((k : Int) < 64) := by omega
        have hlt' : (k : Int) < (len : Int) := by omega
        clear hR
        by_cases h12 : 12 < (len : Int) / 20
        · go_wp2
          go_ret
          exact ⟨rfl, ⟨hl, ⟨_, _, _, srcAtSet3 hA⟩, hRr.below fun k hk => Below.heap_setCell _ _ _ _ (by show k ≠ w.heap.size; omega)⟩, hbel.setCell (Nat.le_refl _) _⟩
        · go_wp2
          go_ret
          exact ⟨rfl, ⟨hl, ⟨_, _, _, srcAtSet3 hA⟩, hRr.below fun k hk => Below.heap_setCell _ _ _ _ (by show k ≠ w.heap.size; omega)⟩, hbel.setCell (Nat.le_refl _) _⟩
    · have hlt' : ¬ ((k : Int) < (len : Int)) := by omega
      clear hR
      have h12 : ¬ 12 < (len : Int) / 20 := by omega
      go_wp2
      go_ret
      exact ⟨rfl, ⟨hl, ⟨_, _, _, srcAtSet3 hA⟩, hRr.below fun k hk => Below.heap_setCell _ _ _ _ (by show k ≠ w.heap.size; omega)⟩, hbel.setCell (Nat.le_refl _) _⟩
end Go.Proofs.Ytilajoafppplcaa
end

section
namespace Go.Proofs.Ytilajoafppplcaa
open Go.ChangeShapes Go.WideShapes Go.ChangeAt Go.RowKit
open Go.ChangeMaps (open_string shut_string)
set_option linter.unusedVariables false


theorem own_only {B : Nat} {w w' : World} {v : Value} {n : Nat} {xs : List Value} (hO : Only B w w') (hown : w.ownsRow (B + 1) 5 1 v n xs) : w'.ownsRow (B + 1) 5 1 v n xs :=
  hown.kept hO.grown (by
    cases hv : v.ownBlock with
    | none => exact Or.inl rfl
    | some g => exact Or.inr (fun e => by have := (hown.lt g hv).1; injection e with e; omega))

/-- what a drawn text answers -/
def DrawnT (B : Nat) (a : Option Addr) (len cap : Nat) (n : Int) (w : World) (e : Ending) (w' : World) : Prop :=
  ∃ s : ByteArray, e = .returned (.string s) ∧ s.size = n.toNat ∧ Src B a len cap w' ∧ Below B w w'

set_option maxRecDepth 100000 in
set_option maxHeartbeats 2000000 in
theorem srcBytes_any (B : Nat) (a : Option Addr) (len cap : Nat) (n : Int) (w : World) (hS : Src B a len cap w) (hn : n ≤ 1048576) :
    Calls Try.prog 131 #[.pointer (some ⟨B, 0, none⟩), .int .i64 n] w fun e w' => DrawnT B a len cap n w e w' := by
  obtain ⟨i0, hi, hz0, hz1, hz2⟩ := info_parts Try.infoU8
  have hlt := hS.lt
  go_enter Try.func131, Try.ntmps131
  go_wp2
  go_loopw [5, 6] (fun v i wr => ∃ l : List UInt8, i = .int .i64 (l.length : Int) ∧ ((l.length : Int) ≤ n ∨ l.length = 0) ∧ wr.ownsRow (B + 1) 5 1 v l.length (bytesV l) ∧ Src B a len cap wr ∧ Below B w wr ∧ B < wr.heap.size) (fun _ i _ => (n - intOf i).toNat)
  case atStart =>
    exact ⟨[], rfl, Or.inr rfl, ⟨rfl, Or.inr ⟨w.heap.size, 0, #[], rfl, hlt, heap_new _ _, Nat.le_refl _, by simp [maxLen], rfl, rfl⟩⟩, hS.kept fun k hk => Below.heap_alloc _ _ _ (by omega), (Below.refl _ _).alloc (by omega) _, by simp; omega⟩
  case round =>
    obtain ⟨l, rfl, hle, hown, hSr, hbel, hB⟩ := hrel
    by_cases hlt2 : (l.length : Int) < n
    · go_wp2_with fail
      refine (srcN_any B a len cap 256 wr hSr (by omega)).mono ?_
      rintro e w1 ⟨r, rfl, hr1, hr2, hS1, hO1⟩
      have hr3 : r ≤ 255 := by omega
      have hown1 := own_only hO1 hown
      have hb1 := hbel.trans hO1.below
      have hB1 : B < w1.heap.size := hS1.lt
      have hlen : (l.length : Int) < 1048576 := by omega
      clear hown hSr hbel hr2
      go_wp2_with (at_builtin; refine wpList_append_own _ rfl _ _ 22 rfl (B + 1) 5 i0 (.int .u8 0) 1 1 Try.underlying22 hi hz0 hz1 hz2 rfl (by decide) _ _ _ rfl (hown1.alloc _) ⟨w1.heap.size, 0, none⟩ 1 1 [.int .u8 r] rfl rfl (cell_one_new _ _ _) ?c2 ?c3 ?c4 ?c5 ?_)
      case c2 => intro x hx; simp at hx; subst hx; rfl
      case c3 => unfold maxLen; omega
      case c4 => omega
      case c5 => simp; omega
      intro v' w2 hown' hgrow _
      have hown2 := own_snoc (c := UInt8.ofNat r.toNat) (by simp; omega) hown'
      have hS2 : Src B a len cap w2 := hS1.kept fun k hk => by
        rw [hgrow.block k (by simp; omega) (fun e => by have := (hown1.lt k e.symm).1; omega)]
        exact Below.heap_alloc _ _ _ (by omega)
      have hb2 : Below B w w2 := (hb1.alloc (by omega) _).grown hgrow (by simp; omega) (fun k hk => by have := (hown1.lt k hk).1; omega)
      have hz3 : B < w2.heap.size := hS2.lt
      clear hown' hgrow hown1 hS1 hb1 hO1
      go_wp2
      go_roundw
      case rel => exact ⟨_, by simp, by simp; omega, hown2, hS2, hb2, hz3⟩
      case measure => simp [intOf]; omega
    · have hcv := conv_own hown
      have hsz : l.length = n.toNat := by omega
      clear hown
      go_wp2
      go_ret
      exact ⟨_, rfl, by simpa [ByteArray.size] using hsz, hSr, hbel⟩

end Go.Proofs.Ytilajoafppplcaa
end

section
namespace Go.Proofs.Ytilajoafppplcaa
open Go.ChangeShapes Go.WideShapes Go.ChangeAt Go.RowKit
open Go.ChangeMaps (open_string shut_string)
set_option linter.unusedVariables false

/-- a sum folded into a word -/
def foldN (n : Nat) : Nat := if n = 0 then 0 else (n - 1) % 65535 + 1
theorem foldN_le (n : Nat) : foldN n ≤ 65535 := by unfold foldN; split <;> omega
theorem foldN_word {n : Nat} (h : n ≤ 65535) : foldN n = n := by unfold foldN; split <;> omega
theorem foldN_step {n : Nat} (h : 65535 < n) : foldN (n % 65536 + n / 65536) = foldN n := by unfold foldN; rw [if_neg (by omega), if_neg (by omega)]; omega
theorem foldN_down {n : Nat} (h : 65535 < n) : n % 65536 + n / 65536 < n := by omega
theorem foldN_zero {n : Nat} : foldN n = 0 ↔ n = 0 := by unfold foldN; split <;> omega
theorem foldN_add (a b : Nat) : foldN (foldN a + foldN b) = foldN (a + b) := by
  unfold foldN
  by_cases ha : a = 0
  · subst ha
    by_cases hb : b = 0
    · subst hb; rfl
    · simp only [hb, if_false, if_true, Nat.zero_add]
      rw [if_neg (by omega)]
      omega
  · by_cases hb : b = 0
    · subst hb
      simp only [ha, if_false, if_true, Nat.add_zero]
      rw [if_neg (by omega)]
      omega
    · simp only [ha, hb, if_false]
      rw [if_neg (by omega), if_neg (by omega)]
      omega
theorem foldN_pos {n : Nat} (h : n ≠ 0) : foldN n = (n - 1) % 65535 + 1 := if_neg h
/-- a text with its check behind it -/
theorem foldN_good (a : Nat) : foldN (a + (65535 - foldN a)) = 65535 := by
  by_cases ha : a = 0
  · subst ha; rfl
  · have h1 := foldN_pos ha
    have h2 := foldN_le a
    rw [foldN_pos (by omega)]
    omega
/-- a check that turns with a word -/
theorem foldN_turn {a y z : Nat} (ha : a ≠ 0) (hy : y ≤ 65535) : foldN (65535 - (65535 - foldN (a + y)) + (65535 - y) + z) = foldN (a + z) := by
  have h1 := foldN_pos (n := a + y) (by omega)
  have h2 := foldN_le (a + y)
  rw [foldN_pos (n := a + z) (by omega), foldN_pos (by omega)]
  omega

/-- the words of a text added up -/
def rawSum : List UInt8 → Nat
  | [] => 0
  | [a] => 256 * a.toNat
  | a :: b :: l => 256 * a.toNat + b.toNat + rawSum l
theorem rawSum_two (a b : UInt8) (l : List UInt8) : rawSum (a :: b :: l) = 256 * a.toNat + b.toNat + rawSum l := rfl
theorem rawSum_app (k : Nat) : ∀ (l m : List UInt8), l.length = 2 * k → rawSum (l ++ m) = rawSum l + rawSum m := by
  induction k with
  | zero => intro l m h; obtain rfl : l = [] := List.length_eq_zero_iff.1 (by omega); simp [rawSum]
  | succ k ih =>
    intro l m h
    match l, h with
    | a :: b :: l, h =>
      have := ih l m (by simp at h; omega)
      simp only [List.cons_append, rawSum_two, this]
      omega
theorem rawSum_le : ∀ (n : Nat) (l : List UInt8), l.length ≤ n → rawSum l ≤ 65535 * l.length
  | 0, l, h => by obtain rfl : l = [] := List.length_eq_zero_iff.1 (by omega); simp [rawSum]
  | 1, l, h => by
    match l, h with
    | [], _ => simp [rawSum]
    | [a], _ => have := a.toNat_lt; simp [rawSum]; omega
  | n + 2, l, h => by
    match l, h with
    | [], _ => simp [rawSum]
    | [a], _ => have := a.toNat_lt; simp [rawSum]; omega
    | a :: b :: l, h =>
      have := rawSum_le n l (by simp at h; omega)
      have := a.toNat_lt
      have := b.toNat_lt
      rw [rawSum_two, List.length_cons, List.length_cons]
      omega
/-- the word at place i -/
theorem rawSum_step2 (l : List UInt8) (k : Nat) (h : 2 * k + 1 < l.length) : rawSum (l.take (2 * (k + 1))) = rawSum (l.take (2 * k)) + (256 * l[2 * k].toNat + l[2 * k + 1].toNat) := by
  have e : l.take (2 * (k + 1)) = l.take (2 * k) ++ [l[2 * k], l[2 * k + 1]] := by
    rw [show 2 * (k + 1) = 2 * k + 1 + 1 from by omega, List.take_succ_eq_append_getElem h, List.take_succ_eq_append_getElem (show 2 * k < l.length by omega), List.append_assoc]
    rfl
  rw [e, rawSum_app k _ _ (by simp; omega)]
  simp [rawSum]
theorem rawSum_step1 (l : List UInt8) (k : Nat) (h : 2 * k + 1 = l.length) : rawSum (l.take (2 * (k + 1))) = rawSum (l.take (2 * k)) + 256 * (l[2 * k]'(by omega)).toNat := by
  have e : l.take (2 * (k + 1)) = l.take (2 * k) ++ [l[2 * k]'(by omega)] := by
    rw [List.take_of_length_le (by omega), ← List.take_succ_eq_append_getElem (by omega), List.take_of_length_le (by omega)]
  rw [e, rawSum_app k _ _ (by simp; omega)]
  simp [rawSum]

/-- the word of that number in a text -/
def wordN (l : List UInt8) (k : Nat) : Nat := rawSum ((l.drop (2 * k)).take 2)
theorem rawSum_word (l : List UInt8) (k : Nat) (h : 2 * k < l.length) : rawSum (l.take (2 * (k + 1))) = rawSum (l.take (2 * k)) + wordN l k := by
  rw [show 2 * (k + 1) = 2 * k + 2 from by omega, List.take_add, rawSum_app k _ _ (by simp; omega)]
  rfl
theorem wordN_two (l : List UInt8) (k : Nat) (h : 2 * k + 1 < l.length) : wordN l k = 256 * l[2 * k].toNat + l[2 * k + 1].toNat := by
  have h1 := rawSum_step2 l k h
  have h2 := rawSum_word l k (by omega)
  omega
theorem wordN_one (l : List UInt8) (k : Nat) (h : 2 * k + 1 = l.length) : wordN l k = 256 * (l[2 * k]'(by omega)).toNat := by
  have h1 := rawSum_step1 l k h
  have h2 := rawSum_word l k (by omega)
  omega
theorem wordN_le (l : List UInt8) (k : Nat) : wordN l k ≤ 65535 * 2 := by
  have h1 := rawSum_le 2 ((l.drop (2 * k)).take 2) (by simp; omega)
  have h2 : ((l.drop (2 * k)).take 2).length ≤ 2 := by simp; omega
  unfold wordN
  omega
/-- what SumOf is to answer -/
def sumAns (s : ByteArray) : Nat := if 8000 < s.size then 0 else foldN (rawSum s.data.toList)
theorem sumAns_le (s : ByteArray) : sumAns s ≤ 65535 := by unfold sumAns; split; omega; exact foldN_le _
/-- a word -/
def wordB (z : Int) : Bool := decide (0 ≤ z) && decide (z ≤ 65535)
theorem wordB_iff {z : Int} : wordB z = true ↔ 0 ≤ z ∧ z ≤ 65535 := by simp [wordB]
/-- what CheckOf, SumAdd and CheckTurn are to answer -/
def checkAns (s : ByteArray) : Int := if 8000 < s.size then 0 else 65535 - (sumAns s : Int)
def addAns (a b : Int) : Int := if wordB a = true ∧ wordB b = true then (foldN (a + b).toNat : Int) else -1
def turnAns (c a b : Int) : Int := if wordB c = true ∧ wordB a = true ∧ wordB b = true then 65535 - (foldN (65535 - c + (65535 - a) + b).toNat : Int) else -1
def wordT (n : Int) : ByteArray := if wordB n = true then ⟨#[UInt8.ofNat (n.toNat / 256), UInt8.ofNat (n.toNat % 256)]⟩ else ⟨#[]⟩
theorem ofInt_i64 (a : Nat) (ha : a < 9223372036854775808) : (BitVec.ofInt 64 (a : Int)).toNat = a := by
  rw [BitVec.ofInt_natCast, BitVec.toNat_ofNat]; exact Nat.mod_eq_of_lt (by omega)
theorem i64_and_nat (a b : Nat) (ha : a < 9223372036854775808) (hb : b < 9223372036854775808) : bits .and .i64 (a : Int) (b : Int) = ((a &&& b : Nat) : Int) := by
  have hx : a &&& b < 2 ^ 63 := Nat.and_lt_two_pow _ (by omega)
  show IntKind.i64.wrap ((BitVec.ofInt 64 (a : Int) &&& BitVec.ofInt 64 (b : Int)).toNat : Int) = _
  rw [BitVec.toNat_and, ofInt_i64 a ha, ofInt_i64 b hb]
  exact IntWalk.i64_in _ (by omega)
theorem i64_or_nat (a b : Nat) (ha : a < 9223372036854775808) (hb : b < 9223372036854775808) : bits .or .i64 (a : Int) (b : Int) = ((a ||| b : Nat) : Int) := by
  have hx : a ||| b < 2 ^ 63 := Nat.or_lt_two_pow (by omega) (by omega)
  show IntKind.i64.wrap ((BitVec.ofInt 64 (a : Int) ||| BitVec.ofInt 64 (b : Int)).toNat : Int) = _
  rw [BitVec.toNat_or, ofInt_i64 a ha, ofInt_i64 b hb]
  exact IntWalk.i64_in _ (by omega)
theorem i64_low16 (n : Nat) (h : n < 9223372036854775808) : bits BinOp.and IntKind.i64 (n : Int) 65535 = ((n % 65536 : Nat) : Int) := by
  have := i64_and_nat n 65535 h (by omega)
  rw [show n &&& 65535 = n % 65536 from Nat.and_two_pow_sub_one_eq_mod n 16] at this
  exact this
theorem i64_join8 (a b : Nat) (ha : a < 256) (hb : b < 256) : bits BinOp.or IntKind.i64 ((a : Int) * 256) (b : Int) = ((256 * a + b : Nat) : Int) := by
  have := i64_or_nat (a * 256) b (by omega) (by omega)
  rw [nat_join 8 (a * 256) b (by omega) (by omega)] at this
  rw [show ((a : Int) * 256) = ((a * 256 : Nat) : Int) from by omega, this]
  omega
end Go.Proofs.Ytilajoafppplcaa
end

section
namespace Go.Proofs.Ytilajoafppplcaa
open Go.ChangeShapes Go.WideShapes Go.ChangeAt Go.RowKit
open Go.ChangeMaps (open_string shut_string)
set_option linter.unusedVariables false

theorem ret_intS {k : IntKind} {a b : Int} (h : a = b) : Ending.returned (.int k a) = .returned (.int k b) := by rw [h]
theorem val_intS {k : IntKind} {a b : Int} (h : a = b) : Value.int k a = .int k b := by rw [h]
theorem hidS {q : Prop} (h : q) : Hid q := h
theorem w64_small {n : Nat} (h : n < 256) : wrap64 (n : Int) = n := by unfold wrap64; omega
end Go.Proofs.Ytilajoafppplcaa
end

section
namespace Go.Proofs.Ytilajoafppplcaa
open Go.ChangeShapes Go.WideShapes Go.ChangeAt Go.RowKit
open Go.ChangeMaps (open_string shut_string)
set_option linter.unusedVariables false
set_option linter.unusedSimpArgs false

theorem grown_trans {a b c : World} {row : Option Nat} (h : a.grownBy b row) (k : b.grownBy c row) : a.grownBy c row :=
  ⟨k.os.trans h.os, k.tape.trans h.tape, k.output.trans h.output, Nat.le_trans h.size k.size, fun i hi hne => (k.block i (Nat.lt_of_lt_of_le hi h.size) hne).trans (h.block i hi hne)⟩
theorem grown_then {a b c : World} {row row' : Option Nat} (h : a.grownBy b row) (k : b.grownBy c row') (hr : ∀ j, row' = some j → a.heap.size ≤ j) : a.grownBy c row :=
  ⟨k.os.trans h.os, k.tape.trans h.tape, k.output.trans h.output, Nat.le_trans h.size k.size, fun i hi hne => (k.block i (Nat.lt_of_lt_of_le hi h.size) (fun e => by have := hr i e.symm; omega)).trans (h.block i hi hne)⟩
theorem grown_refl (w : World) (row : Option Nat) : w.grownBy w row := ⟨rfl, rfl, rfl, Nat.le_refl _, fun _ _ _ => rfl⟩
theorem grown_below {a b : World} {B : Nat} (h : a.grownBy b (some B)) (hB : B < a.heap.size) : Below B a b := ⟨h.os, h.tape, h.output, h.size, fun k hk => h.block k (by omega) (fun e => by injection e with e; omega)⟩
/-- what a drawn number between bounds answers -/
def DrawnR (B : Nat) (a : Option Addr) (len cap : Nat) (lo hi : Int) (w : World) (e : Ending) (w' : World) : Prop :=
  ∃ r : Int, e = .returned (.int .i64 r) ∧ lo ≤ r ∧ r ≤ hi ∧ Src B a len cap w' ∧ w.grownBy w' (some B)

set_option maxRecDepth 100000 in
set_option maxHeartbeats 2000000 in
theorem srcAddr_any (B : Nat) (a : Option Addr) (len cap : Nat) (w : World) (hS : Src B a len cap w) :
    Calls Try.prog 72 #[.pointer (some ⟨B, 0, none⟩)] w fun e w' => DrawnR B a len cap (-1) 4294967296 w e w' := by
  have hlt := hS.lt
  go_enter Try.func72, Try.ntmps72
  go_wp2_with fail
  refine (srcOne_any B a len cap 15 w hS (by omega)).mono ?_
  rintro e w1 ⟨c, rfl, hS1, hO1⟩
  have hlt1 := hS1.lt
  have hb1 := hidS hO1.grown
  clear hO1 hS
  cases c
  · go_wp2_with fail
    refine (srcN_any B a len cap 5 _ (hS1.kept fun k hk => Below.heap_alloc _ _ _ (by omega)) (by omega)).mono ?_
    rintro e w2 ⟨r, rfl, hr1, hr2, hS2, hO2⟩
    have hr3 : r ≤ 4 := by omega
    have hrow : ∃ z : Int, -1 ≤ z ∧ z ≤ 4294967296 ∧ w2.cell? ⟨w1.heap.size, r.toNat, none⟩ = some (.int .i64 z) := by
      have hh := (hO2.block w1.heap.size (by omega)).trans (heap_new _ _)
      obtain ⟨j, rfl⟩ : ∃ j : Nat, r = j := ⟨r.toNat, by omega⟩
      rw [Int.toNat_natCast, cellOfHeap hh]
      rcases (by omega : j = 0 ∨ j = 1 ∨ j = 2 ∨ j = 3 ∨ j = 4) with rfl | rfl | rfl | rfl | rfl
      all_goals exact ⟨_, by decide, by decide, rfl⟩
    obtain ⟨z, hz1, hz2, hc⟩ := hrow
    clear hr2
    have hb2 : w.grownBy w2 (some B) := grown_trans (grown_trans hb1.out (World.grownBy_alloc _ _ _)) hO2.grown
    clear hO2 hb1
    go_wp2
    go_ret
    exact ⟨z, rfl, hz1, hz2, hS2, hb2⟩
  · go_wp2_with fail
    refine (srcN_any B a len cap 4 _ (hS1.kept fun k hk => Below.heap_alloc _ _ _ (by omega)) (by omega)).mono ?_
    rintro e w2 ⟨r, rfl, hr1, hr2, hS2, hO2⟩
    have hr3 : r ≤ 3 := by omega
    have hrow : ∃ z : Int, -1 ≤ z ∧ z ≤ 4294967296 ∧ w2.cell? ⟨w1.heap.size, r.toNat, none⟩ = some (.int .i64 z) := by
      have hh := (hO2.block w1.heap.size (by omega)).trans (heap_new _ _)
      obtain ⟨j, rfl⟩ : ∃ j : Nat, r = j := ⟨r.toNat, by omega⟩
      rw [Int.toNat_natCast, cellOfHeap hh]
      rcases (by omega : j = 0 ∨ j = 1 ∨ j = 2 ∨ j = 3) with rfl | rfl | rfl | rfl
      all_goals exact ⟨_, by decide, by decide, rfl⟩
    obtain ⟨z, hz1, hz2, hc⟩ := hrow
    clear hr2
    have hb2 : w.grownBy w2 (some B) := grown_trans (grown_trans hb1.out (World.grownBy_alloc _ _ _)) hO2.grown
    clear hO2 hb1
    go_wp2
    go_ret
    exact ⟨z, rfl, hz1, hz2, hS2, hb2⟩
end Go.Proofs.Ytilajoafppplcaa
end
