/- Proved here: what PutNum answers: spec.PutNum and impl.PutNum return the bytes of the number that are defined below as a plain function, and leave all old memory alone (condition: the argument fits int64). -/
import Derived.Test.YtldaebdioljnlaaDoorOwn
import Derived.WalkKit
import Derived.WalkSpells
import Derived.ProofKit
import Derived.OpenShut
import Derived.ShutString
import Derived.Handy
import Derived.Below
import Derived.Laws.BitsAllLaws
import Derived.Laws.IdiomStrings
namespace Go.Proofs.YtldaebdioljnlaaDoor
open Go.ChangeShapes Go.WideShapes Go.ChangeAt Go.RowKit
open Go.ChangeMaps (open_string shut_string)
set_option linter.unusedVariables false

/-- a number folded: those below 0 between the others -/
def zig (n : Int) : Nat := if n < 0 then (-2 * n - 1).toNat else (2 * n).toNat
theorem zig_lt {n : Int} (h1 : -9223372036854775808 ≤ n) (h2 : n ≤ 9223372036854775807) : zig n < 18446744073709551616 := by unfold zig; split <;> omega
theorem xor_ones (x : Nat) (h : x < 2 ^ 64) : x ^^^ (2 ^ 64 - 1) = 2 ^ 64 - (x + 1) := by
  apply Nat.eq_of_testBit_eq
  intro i
  rw [Nat.testBit_xor, Nat.testBit_two_pow_sub_one, Nat.testBit_two_pow_sub_succ h]
  by_cases hi : i < 64
  · simp [hi]
  · have : x.testBit i = false := Nat.testBit_lt_two_pow (Nat.lt_of_lt_of_le h (Nat.pow_le_pow_right (by omega) (by omega)))
    simp [hi, this]

theorem l01Fold_any (n : Int) (w : World) (h1 : -9223372036854775808 ≤ n) (h2 : n ≤ 9223372036854775807) :
    Calls Tryd.prog 15 #[.int .i64 n] w fun e w' => e = .returned (.int .u64 (zig n : Nat)) ∧ w' = w := by
  by_cases h : n < 0
  · go_enter Tryd.func15, Tryd.ntmps15
    go_wp2
    go_ret
    exact ⟨ret_int' (by unfold zig; rw [if_pos h]; omega), rfl⟩
  · go_enter Tryd.func15, Tryd.ntmps15
    go_wp2
    go_ret
    exact ⟨ret_int' (by unfold zig; rw [if_neg (by omega)]; omega), rfl⟩

theorem fold_neg {n : Int} (h1 : -9223372036854775808 ≤ n) (h : n < 0) :
    bits BinOp.xor IntKind.u64 (IntKind.u64.wrap (IntKind.u64.wrap n * 2)) (IntKind.u64.wrap (n / 9223372036854775808)) = ((zig n : Nat) : Int) := by
  have e1 : n / 9223372036854775808 = -1 := by omega
  have e2 : IntKind.u64.wrap (-1) = ((2 ^ 64 - 1 : Nat) : Int) := by rw [IntKind.wrap_u64]; rfl
  have e3 : IntKind.u64.wrap (IntKind.u64.wrap n * 2) = ((2 * n + 18446744073709551616).toNat : Int) := by rw [IntKind.wrap_u64, IntKind.wrap_u64]; omega
  rw [e1, e2, e3, u64_xor_nat _ _ (by omega) (by omega), xor_ones _ (by omega)]
  unfold zig
  rw [if_pos h]
  omega
theorem fold_pos {n : Int} (h1 : -9223372036854775808 ≤ n) (h2 : n ≤ 9223372036854775807) (h : ¬ n < 0) :
    bits BinOp.xor IntKind.u64 (n * 2) (n / 9223372036854775808) = ((zig n : Nat) : Int) := by
  have e3 : n * 2 = ((2 * n).toNat : Int) := by omega
  have e4 : n / 9223372036854775808 = ((0 : Nat) : Int) := by omega
  rw [e3, e4, u64_xor_nat _ _ (by omega) (by omega), Nat.xor_zero]
  unfold zig
  rw [if_neg h]

theorem foldSign_any (n : Int) (w : World) (h1 : -9223372036854775808 ≤ n) (h2 : n ≤ 9223372036854775807) :
    Calls Tryd.prog 14 #[.int .i64 n] w fun e w' => e = .returned (.int .u64 (zig n : Nat)) ∧ w' = w := by
  by_cases h : n < 0
  · have F : Hid (bits BinOp.xor IntKind.u64 (IntKind.u64.wrap (IntKind.u64.wrap n * 2)) (IntKind.u64.wrap (n / 9223372036854775808)) = ((zig n : Nat) : Int)) := fold_neg h1 h
    go_enter Tryd.func14, Tryd.ntmps14
    go_wp2
    go_ret
    exact ⟨ret_int' F.out, rfl⟩
  · have F : Hid (bits BinOp.xor IntKind.u64 (n * 2) (n / 9223372036854775808) = ((zig n : Nat) : Int)) := fold_pos h1 h2 h
    go_enter Tryd.func14, Tryd.ntmps14
    go_wp2
    go_ret
    exact ⟨ret_int' F.out, rfl⟩

/-- the bytes of u: seven bits a byte, the lowest first, 128 more in all but the last; f: how many bytes may still come -/
def numBytes : Nat → Nat → List UInt8
  | 0, u => [UInt8.ofNat u]
  | f + 1, u => if u < 128 then [UInt8.ofNat u] else UInt8.ofNat (u % 128 + 128) :: numBytes f (u / 128)

/-- where the loop of PutNum stands: v owns what is written, u is what is left -/
def NumRel (z B : Nat) (w wr : World) (v : Value) (u : Nat) : Prop :=
  ∃ acc f, acc.length + f = 10 ∧ Hid (u < 128 ^ f ∧ acc ++ numBytes f u = numBytes 10 z) ∧ wr.ownsRow B 5 1 v acc.length (bytesV acc) ∧ Below B w wr

theorem numBytes_last {f u : Nat} (h : u < 128) : numBytes f u = [UInt8.ofNat u] := by cases f <;> simp [numBytes, h]
theorem num_step {z u f : Nat} {acc : List UInt8} (hge : 128 ≤ u) (hf : acc.length + f = 10) (h : Hid (u < 128 ^ f ∧ acc ++ numBytes f u = numBytes 10 z)) :
    ∃ f', (acc ++ [UInt8.ofNat (u % 128 + 128)]).length + f' = 10 ∧ Hid (u / 128 < 128 ^ f' ∧ (acc ++ [UInt8.ofNat (u % 128 + 128)]) ++ numBytes f' (u / 128) = numBytes 10 z) := by
  obtain ⟨h1, h2⟩ := h
  cases f with
  | zero => exact absurd h1 (by simp; omega)
  | succ f' =>
    refine ⟨f', by simp; omega, ?_, ?_⟩
    · rw [Nat.pow_succ] at h1
      exact (Nat.div_lt_iff_lt_mul (by omega)).2 h1
    · rw [← h2]
      simp [numBytes, Nat.not_lt.2 hge]
theorem num_byte {u : Nat} : ((u : Int) % 128 + 128) = ((UInt8.ofNat (u % 128 + 128)).toNat : Int) := by
  have : (UInt8.ofNat (u % 128 + 128)).toNat = u % 128 + 128 := by simp; omega
  rw [this]; omega
theorem num_byte' {u : Nat} (h : (u : Int) ≤ 18446744073709551615) : bits BinOp.or IntKind.u8 (bits BinOp.and IntKind.u64 (u : Int) 127 % 256) 128 = ((UInt8.ofNat (u % 128 + 128)).toNat : Int) := by
  have e1 : bits BinOp.and IntKind.u64 (u : Int) ((127 : Nat) : Int) = ((u &&& 127 : Nat) : Int) := u64_and_nat u 127 (by omega) (by omega)
  rw [show ((127 : Nat) : Int) = 127 from rfl, nat_mask7] at e1
  have e2 : ((u % 128 : Nat) : Int) % 256 = ((u % 128 : Nat) : Int) := by omega
  have e3 : bits BinOp.or IntKind.u8 ((u % 128 : Nat) : Int) ((128 : Nat) : Int) = ((u % 128 ||| 128 : Nat) : Int) := u8_or_nat _ _ (by omega) (by omega)
  rw [show ((128 : Nat) : Int) = 128 from rfl, Nat.or_comm, nat_join 7 128 (u % 128) (by decide) (by omega)] at e3
  rw [e1, e2, e3]
  have : (UInt8.ofNat (u % 128 + 128)).toNat = u % 128 + 128 := by simp; omega
  rw [this, Nat.add_comm]
theorem num_lastByte {u : Nat} (h : u < 128) : (u : Int) = ((UInt8.ofNat u).toNat : Int) := by
  have : (UInt8.ofNat u).toNat = u := by simp; omega
  rw [this]

set_option maxRecDepth 100000 in
set_option maxHeartbeats 1000000 in
theorem specPutNum_any (n : Int) (w : World) (h1 : -9223372036854775808 ≤ n) (h2 : n ≤ 9223372036854775807) :
    Calls Tryd.prog 6 #[.int .i64 n] w fun e w' => e = .returned (.string ⟨(numBytes 10 (zig n)).toArray⟩) ∧ Below w.heap.size w w' := by
  obtain ⟨i0, hi, hz0, hz1, hz2⟩ := info_parts Tryd.infoU8
  have hzl : (zig n : Int) ≤ 18446744073709551615 := by have := zig_lt h1 h2; omega
  go_enter Tryd.func6, Tryd.ntmps6
  go_wp2_with (go_at_call 15; refine (l01Fold_any _ _ h1 h2).mono ?_; rintro e w ⟨rfl, rfl⟩)
  go_loopw [4, 3] (fun v t wr => ∃ u : Nat, t = .int .u64 u ∧ (u : Int) ≤ 18446744073709551615 ∧ NumRel (zig n) w.heap.size w wr v u) (fun _ t _ => (intOf t).toNat)
  case atStart =>
    exact ⟨zig n, rfl, hzl, [], 10, rfl, ⟨by omega, rfl⟩, ⟨rfl, Or.inr ⟨w.heap.size, 0, #[], rfl, Nat.le_refl _, heap_new _ _, Nat.le_refl _, by simp [maxLen], rfl, rfl⟩⟩, (Below.refl _ _).alloc (Nat.le_refl _) _⟩
  case round =>
    obtain ⟨u, rfl, hu, acc, f, hf, hacc, hown, hbel⟩ := hrel
    have hB : w.heap.size ≤ wr.heap.size := hbel.size
    have hlen : acc.length ≤ 10 := by omega
    by_cases hge : 128 ≤ u
    · obtain ⟨f', hf', hacc'⟩ := num_step hge hf hacc
      have HF : Hid ((acc ++ [UInt8.ofNat (u % 128 + 128)]).length + f' = 10) := hf'
      have hdec : u / 128 < u := by omega
      clear hf hacc hf'
      go_wp2_with (at_builtin; refine wpList_append_own _ rfl _ _ 22 rfl w.heap.size 5 i0 (.int .u8 0) 1 1 Tryd.underlying22 hi hz0 hz1 hz2 rfl (by decide) _ _ _ rfl (hown.alloc _) ⟨wr.heap.size, 0, none⟩ 1 1 [.int .u8 ((u : Int) % 128 + 128)] rfl rfl (cell_one_new _ _ _) ?c2 ?c3 ?c4 ?c5 ?_)
      case c2 => intro x hx; simp at hx; subst hx; rfl
      case c3 => unfold maxLen; omega
      case c4 => omega
      case c5 => simp; omega
      intro v' w1 hown' hgrow _
      have hown2 := own_snoc num_byte hown'
      have hbel2 := below_app hbel hB hown hgrow
      clear hown' hgrow hown hbel
      go_wp2
      go_roundw
      case rel => exact ⟨u / 128, by go_num, by omega, _, f', HF.out, hacc', hown2, hbel2⟩
      case measure => simp [intOf]; omega
    · have hlast : Hid (acc ++ [UInt8.ofNat u] = numBytes 10 (zig n)) := by have := hacc.out.2; rw [numBytes_last (by omega)] at this; exact this
      clear hacc hf
      go_wp2_with (at_builtin; refine wpList_append_own _ rfl _ _ 22 rfl w.heap.size 5 i0 (.int .u8 0) 1 1 Tryd.underlying22 hi hz0 hz1 hz2 rfl (by decide) _ _ _ rfl (hown.alloc _) ⟨wr.heap.size, 0, none⟩ 1 1 [.int .u8 (u : Int)] rfl rfl (cell_one_new _ _ _) ?c2 ?c3 ?c4 ?c5 ?_)
      case c2 => intro x hx; simp at hx; subst hx; rfl
      case c3 => unfold maxLen; omega
      case c4 => omega
      case c5 => simp; omega
      intro v' w1 hown' hgrow _
      have hown2 := own_snoc (num_lastByte (by omega)) hown'
      have hbel2 := below_app hbel hB hown hgrow
      have hcv := conv_own hown2
      rw [hlast.out] at hcv
      clear hown' hgrow hown hbel hown2
      go_wp2
      go_ret
      exact ⟨rfl, hbel2⟩

set_option maxRecDepth 100000 in
set_option maxHeartbeats 1000000 in
theorem implPutNum_any (n : Int) (w : World) (h1 : -9223372036854775808 ≤ n) (h2 : n ≤ 9223372036854775807) :
    Calls Tryd.prog 5 #[.int .i64 n] w fun e w' => e = .returned (.string ⟨(numBytes 10 (zig n)).toArray⟩) ∧ Below w.heap.size w w' := by
  obtain ⟨i0, hi, hz0, hz1, hz2⟩ := info_parts Tryd.infoU8
  have hzl : (zig n : Int) ≤ 18446744073709551615 := by have := zig_lt h1 h2; omega
  go_enter Tryd.func5, Tryd.ntmps5
  go_wp2_with (go_at_call 14; refine (foldSign_any _ _ h1 h2).mono ?_; rintro e w ⟨rfl, rfl⟩)
  go_loopw [3, 4] (fun v t wr => ∃ u : Nat, t = .int .u64 u ∧ (u : Int) ≤ 18446744073709551615 ∧ NumRel (zig n) w.heap.size w wr v u) (fun _ t _ => (intOf t).toNat)
  case atStart =>
    exact ⟨zig n, rfl, hzl, [], 10, rfl, ⟨by omega, rfl⟩, ⟨rfl, Or.inl ⟨rfl, rfl⟩⟩, Below.refl _ _⟩
  case round =>
    obtain ⟨u, rfl, hu, acc, f, hf, hacc, hown, hbel⟩ := hrel
    have hB : w.heap.size ≤ wr.heap.size := hbel.size
    have hlen : acc.length ≤ 10 := by omega
    by_cases hge : 128 ≤ u
    · obtain ⟨f', hf', hacc'⟩ := num_step hge hf hacc
      have HF : Hid ((acc ++ [UInt8.ofNat (u % 128 + 128)]).length + f' = 10) := hf'
      have hdec : u / 128 < u := by omega
      clear hf hacc hf'
      go_wp2_with (at_builtin; refine wpList_append_own _ rfl _ _ 22 rfl w.heap.size 5 i0 (.int .u8 0) 1 1 Tryd.underlying22 hi hz0 hz1 hz2 rfl (by decide) _ _ _ rfl (hown.alloc _) ⟨wr.heap.size, 0, none⟩ 1 1 [.int .u8 (bits BinOp.or IntKind.u8 (bits BinOp.and IntKind.u64 (u : Int) 127 % 256) 128)] rfl rfl (cell_one_new _ _ _) ?c2 ?c3 ?c4 ?c5 ?_)
      case c2 => intro x hx; simp at hx; subst hx; rfl
      case c3 => unfold maxLen; omega
      case c4 => omega
      case c5 => simp; omega
      intro v' w1 hown' hgrow _
      have hown2 := own_snoc (num_byte' (by omega)) hown'
      have hbel2 := below_app hbel hB hown hgrow
      clear hown' hgrow hown hbel
      go_wp2
      go_roundw
      case rel => exact ⟨u / 128, by go_num, by omega, _, f', HF.out, hacc', hown2, hbel2⟩
      case measure => simp [intOf]; omega
    · have hlast : Hid (acc ++ [UInt8.ofNat u] = numBytes 10 (zig n)) := by have := hacc.out.2; rw [numBytes_last (by omega)] at this; exact this
      clear hacc hf
      go_wp2_with (at_builtin; refine wpList_append_own _ rfl _ _ 22 rfl w.heap.size 5 i0 (.int .u8 0) 1 1 Tryd.underlying22 hi hz0 hz1 hz2 rfl (by decide) _ _ _ rfl (hown.alloc _) ⟨wr.heap.size, 0, none⟩ 1 1 [.int .u8 (u : Int)] rfl rfl (cell_one_new _ _ _) ?c2 ?c3 ?c4 ?c5 ?_)
      case c2 => intro x hx; simp at hx; subst hx; rfl
      case c3 => unfold maxLen; omega
      case c4 => omega
      case c5 => simp; omega
      intro v' w1 hown' hgrow _
      have hown2 := own_snoc (num_lastByte (by omega)) hown'
      have hbel2 := below_app hbel hB hown hgrow
      have hcv := conv_own hown2
      rw [hlast.out] at hcv
      clear hown' hgrow hown hbel hown2
      go_wp2
      go_ret
      exact ⟨rfl, hbel2⟩


end Go.Proofs.YtldaebdioljnlaaDoor
