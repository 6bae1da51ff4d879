/- Proved here: impl.readNum returns what the plain reading function gives: the number and the place behind it and no error, or no number and the fault with its code; all old memory stays (condition: the text has at most 8000 bytes, the place is not below 0). -/
import Derived.Test.YtldaebdioljnlaaDoorRd
import Derived.Test.YtldaebdioljnlaaDoorJumps
import Derived.Test.YtldaebdioljnlaaDoorProg
import Derived.WalkKit
import Derived.WalkSpells
import Derived.Handy
import Derived.Below
import Derived.Deep.QuietTactic
import Derived.BigQuiet
namespace Go.Proofs.YtldaebdioljnlaaDoor
open Go.RowKit
set_option linter.unusedVariables false

theorem hid' {q : Prop} (h : q) : Hid q := h
theorem retT {a b a' b' : Int} {e e' : Value} (h1 : a = a') (h2 : b = b') (h3 : e = e') : Ending.returned (.tuple #[.int .i64 a, .int .i64 b, e]) = .returned (.tuple #[.int .i64 a', .int .i64 b', e']) := by rw [h1, h2, h3]

/-- the error that stands for a code -/
def errV (c : Int) : Value := if c = 0 then .nilIface else .iface 45 (.agg #[.int .i64 c])

/-- what holds at the labels of readNum: 0 wrong, 1 more, 2 last -/
def numJ (s : ByteArray) (p : Nat) (w : World) (r : Int × Int × Int) : Nat → Act → World → Prop
  | 0, a', w' => ∃ (c : Int) (x1 x7 x8 x9 x12 x13 x14 x15 x16 x17 x18 x19 x20 x21 x22 x23 x24 x25 x26 x27 x28 x29 x30 x31 x32 x33 x34 x35 x36 x37 x38 x39 x40 x41 x42 x43 x44 x45 x46 x47 x48 x49 x50 x51 x52 x53 x54 : Value), a' = { tmps := #[.string s, x1, undef, undef, .int .i64 0, .int .i64 0, .nilIface, x7, x8, x9, .pointer (some ⟨w.heap.size, 0, none⟩), .agg #[.int .i64 3], x12, x13, x14, x15, x16, x17, x18, x19, x20, x21, x22, x23, x24, x25, x26, x27, x28, x29, x30, x31, x32, x33, x34, x35, x36, x37, x38, x39, x40, x41, x42, x43, x44, x45, x46, x47, x48, x49, x50, x51, x52, x53, x54], defers := [] } ∧ w' = w.alloc (.cells #[.int .i64 c] 45) ∧ Hid ((c = 3 ∨ c = 4) ∧ (0, 0, c) = r)
  | 1, a', w' => ∃ (k u : Nat) (at1 u1 sh : Int) (x8 x12 x13 x14 x15 x16 x17 x18 x19 x20 x21 x22 x23 x24 x25 x26 x27 x28 x29 x30 x31 x32 x33 x34 x35 x36 x37 x38 x39 x40 x41 x42 x43 x44 x45 x46 x47 x48 x49 x50 x51 x52 x53 x54 : Value), a' = { tmps := #[.string s, .int .i64 at1, undef, undef, .int .i64 0, .int .i64 0, .nilIface, .int .u64 u1, x8, .int .i64 sh, .pointer (some ⟨w.heap.size, 0, none⟩), .agg #[.int .i64 3], x12, x13, x14, x15, x16, x17, x18, x19, x20, x21, x22, x23, x24, x25, x26, x27, x28, x29, x30, x31, x32, x33, x34, x35, x36, x37, x38, x39, x40, x41, x42, x43, x44, x45, x46, x47, x48, x49, x50, x51, x52, x53, x54], defers := [] } ∧ w' = w.alloc (.cells #[.int .i64 3] 45) ∧ k ≤ 9 ∧ at1 = (p : Int) + (k : Int) ∧ u1 = (u : Int) ∧ sh = 7 * (k : Int) ∧ Hid (u < 128 ^ k ∧ rd s p (9 - k + 1) k u = r)
  | 2, a', w' => ∃ (k u c : Nat) (at1 u1 sh c1 : Int) (x12 x13 x14 x15 x16 x17 x18 x19 x20 x21 x22 x23 x24 x25 x26 x27 x28 x29 x30 x31 x32 x33 x34 x35 x36 x37 x38 x39 x40 x41 x42 x43 x44 x45 x46 x47 x48 x49 x50 x51 x52 x53 x54 : Value), a' = { tmps := #[.string s, .int .i64 at1, undef, undef, .int .i64 0, .int .i64 0, .nilIface, .int .u64 u1, .int .u8 c1, .int .i64 sh, .pointer (some ⟨w.heap.size, 0, none⟩), .agg #[.int .i64 3], x12, x13, x14, x15, x16, x17, x18, x19, x20, x21, x22, x23, x24, x25, x26, x27, x28, x29, x30, x31, x32, x33, x34, x35, x36, x37, x38, x39, x40, x41, x42, x43, x44, x45, x46, x47, x48, x49, x50, x51, x52, x53, x54], defers := [] } ∧ w' = w.alloc (.cells #[.int .i64 3] 45) ∧ k ≤ 9 ∧ c < 128 ∧ p + k < 8000 ∧ at1 = (p : Int) + (k : Int) + 1 ∧ u1 = (u : Int) ∧ sh = 7 * (k : Int) ∧ c1 = (c : Int) ∧ Hid (u < 128 ^ k ∧ ¬ (k = 9 ∧ 1 < c) ∧ (if c = 0 ∧ 0 < k then (0, 0, 3) else (unzig (u + c * 128 ^ k), ((p + k + 1 : Nat) : Int), 0)) = r)
  | _, _, _ => False

/-- jumps come to an end -/
def numM : Nat → Act → World → Nat
  | 0, _, _ => 0
  | 1, a', _ => 100 - (intOf (a'.tmps.getD 9 undef)).toNat
  | 2, _, _ => 1
  | _, _, _ => 0

set_option maxRecDepth 100000 in
theorem unfoldSign_any (v : Nat) (w : World) (hv : (v : Int) ≤ 18446744073709551615) :
    Calls Tryd.prog 24 #[.int .u64 (v : Int)] w fun e w' => e = .returned (.int .i64 (unzig v)) ∧ w' = w := by
  have HV : Hid (bits BinOp.xor IntKind.i64 ((v : Int) / 2) (wrap64 (-wrap64 (bits BinOp.and IntKind.u64 (v : Int) 1))) = unzig v) := unfold_val hv
  go_enter Tryd.func24, Tryd.ntmps24
  go_wp2
  go_ret
  exact ⟨congrArg (fun x => Ending.returned (.int .i64 x)) HV.out, rfl⟩

set_option maxRecDepth 100000 in
set_option maxHeartbeats 4000000 in
theorem readNum_in (s : ByteArray) (p : Nat) (w : World) (hs : s.size ≤ 8000) (rn ra rc : Int) (hr : Hid (rd s p 10 0 0 = (rn, ra, rc))) :
    Calls Tryd.prog 16 #[.string s, .int .i64 (p : Int)] w fun e w' => e = .returned (.tuple #[.int .i64 rn, .int .i64 ra, errV rc]) ∧ Below w.heap.size w w' := by
  have hs' : (s.size : Int) ≤ 8000 := by omega
  clear hs
  go_enter Tryd.func16, Tryd.ntmps16
  go_wp2
  refine wp_scope_from (numJ s p w (rn, ra, rc)) numM 1 rfl ?_ ?_ ?_
  · intro Hfirst
    have HF := Hfirst
    clear Hfirst
    go_wp2
    go_step3
    simp only [Exit.then]
    rename_i hK
    refine hK _ _ (HF _ _ ?_)
    exact ⟨0, 0, _, _, _, _, _, _, _, _, _, _, _, _, _, _, _, _, _, _, _, _, _, _, _, _, _, _, _, _, _, _, _, _, _, _, _, _, _, _, _, _, _, _, _, _, _, _, _, rfl, rfl, by omega, by omega, rfl, by omega, ⟨by simp, hr.out⟩⟩
  · intro a' w' hJ
    obtain ⟨k, u, at1, u1, sh, x8, x12, x13, x14, x15, x16, x17, x18, x19, x20, x21, x22, x23, x24, x25, x26, x27, x28, x29, x30, x31, x32, x33, x34, x35, x36, x37, x38, x39, x40, x41, x42, x43, x44, x45, x46, x47, x48, x49, x50, x51, x52, x53, x54, rfl, rfl, hk, rfl, rfl, rfl, hR⟩ := hJ
    have hR1 := hR.out.1
    have hR2 := hR.out.2
    clear hR hr
    by_cases hin : p + k < s.size
    · have hin' : ¬ ((s.size : Int) ≤ (p : Int) + (k : Int)) := by omega
      have hc : (s[p + k].toNat : Int) < 256 := by have := s[p + k].toNat_lt; omega
      by_cases h9 : k = 9 ∧ 1 < s[p + k].toNat
      · have e3 := (rd_nine hin h9.1 h9.2).symm.trans hR2
        have E3 : Hid ((0, 0, 3) = (rn, ra, rc)) := e3
        have h63 : (7 * (k : Int) == 63) = true := by simp; omega
        have h91 : (1 : Int) < (s[p + k].toNat : Int) := by omega
        have HM : Hid (k ≤ 9) := hk
        clear hR1 hR2 e3 h9
        go_wp2
        go_step3
        exact ⟨⟨3, _, _, _, _, _, _, _, _, _, _, _, _, _, _, _, _, _, _, _, _, _, _, _, _, _, _, _, _, _, _, _, _, _, _, _, _, _, _, _, _, _, _, _, _, _, _, _, rfl, rfl, Or.inl rfl, E3.out⟩, by show 0 < 100 - (7 * (k : Int)).toNat; have := HM.out; omega⟩
      · by_cases h128 : s[p + k].toNat < 128
        · have h128' : (s[p + k].toNat : Int) < 128 := by omega
          have HL0 : (if s[p + k].toNat = 0 ∧ 0 < k then (0, 0, 3) else (unzig (u + s[p + k].toNat * 128 ^ k), ((p + k + 1 : Nat) : Int), 0)) = (rn, ra, rc) := by
            rw [← hR2]
            by_cases hz : s[p + k].toNat = 0 ∧ 0 < k
            · rw [if_pos hz, rd_zero hin h9 hz.1 hz.2]
            · rw [if_neg hz, rd_last hin h9 h128 hz]
          have HL := hid' HL0
          clear HL0
          have HR : Hid (u < 128 ^ k ∧ ¬ (k = 9 ∧ 1 < s[p + k].toNat)) := ⟨hR1, h9⟩
          have H8 : Hid (p + k < 8000) := by show p + k < 8000; omega
          clear hR1 hR2
          by_cases h63 : (7 * (k : Int) == 63) = true
          · have h91 : ¬ ((1 : Int) < (s[p + k].toNat : Int)) := by simp at h63; omega
            clear h9
            go_wp2
            go_step3
            exact ⟨⟨k, u, s[p + k].toNat, _, _, _, _, _, _, _, _, _, _, _, _, _, _, _, _, _, _, _, _, _, _, _, _, _, _, _, _, _, _, _, _, _, _, _, _, _, _, _, _, _, _, _, _, _, _, _, rfl, rfl, hk, h128, H8.out, rfl, rfl, rfl, rfl, HR.out.1, HR.out.2, HL.out⟩, by show 1 < 100 - (7 * (k : Int)).toNat; omega⟩
          · simp only [Bool.not_eq_true] at h63
            clear h9
            go_wp2
            go_step3
            exact ⟨⟨k, u, s[p + k].toNat, _, _, _, _, _, _, _, _, _, _, _, _, _, _, _, _, _, _, _, _, _, _, _, _, _, _, _, _, _, _, _, _, _, _, _, _, _, _, _, _, _, _, _, _, _, _, _, rfl, rfl, hk, h128, H8.out, rfl, rfl, rfl, rfl, HR.out.1, HR.out.2, HL.out⟩, by show 1 < 100 - (7 * (k : Int)).toNat; omega⟩
        · have h128' : ¬ ((s[p + k].toNat : Int) < 128) := by omega
          have hk9 : k ≠ 9 := fun e => h9 ⟨e, by omega⟩
          have h63 : (7 * (k : Int) == 63) = false := beq_eq_false_iff_ne.2 (by omega)
          have hR3 := (rd_more (f := 9 - k) (u := u) hin h9 h128).symm.trans hR2
          have hvp := acc_pow (x := s[p + k].toNat % 128) hR1 (by omega)
          have hmv := more_val (c := s[p + k].toNat) hR1 (by omega) (by omega)
          generalize u + s[p + k].toNat % 128 * 128 ^ k = v at hR3 hvp hmv
          have HN : Hid (v < 128 ^ (k + 1) ∧ rd s p (9 - (k + 1) + 1) (k + 1) v = (rn, ra, rc)) := ⟨hvp, by rw [show 9 - (k + 1) + 1 = 9 - k from by omega]; exact hR3⟩
          clear hR1 hR2 h9 hR3 hvp
          go_wp2
          go_step3
          exact ⟨⟨k + 1, v, _, _, _, _, _, _, _, _, _, _, _, _, _, _, _, _, _, _, _, _, _, _, _, _, _, _, _, _, _, _, _, _, _, _, _, _, _, _, _, _, _, _, _, _, _, _, _, rfl, rfl, by omega, by omega, rfl, by omega, HN⟩, by show 100 - (7 * (k : Int) + 7).toNat < 100 - (7 * (k : Int)).toNat; omega⟩
    · have hin' : (s.size : Int) ≤ (p : Int) + (k : Int) := by omega
      have e4 := (rd_short hin).symm.trans hR2
      have E4 : Hid ((0, 0, 4) = (rn, ra, rc)) := e4
      have HM : Hid (k ≤ 9) := hk
      clear hR1 hR2 e4
      go_wp2
      go_step3
      exact ⟨⟨4, _, _, _, _, _, _, _, _, _, _, _, _, _, _, _, _, _, _, _, _, _, _, _, _, _, _, _, _, _, _, _, _, _, _, _, _, _, _, _, _, _, _, _, _, _, _, _, rfl, rfl, Or.inr rfl, E4.out⟩, by show 0 < 100 - (7 * (k : Int)).toNat; have := HM.out; omega⟩
  · intro l a' w' hl hJ
    match l, hl, hJ with
    | 0, _, hJ =>
      obtain ⟨c, x1, x7, x8, x9, x12, x13, x14, x15, x16, x17, x18, x19, x20, x21, x22, x23, x24, x25, x26, x27, x28, x29, x30, x31, x32, x33, x34, x35, x36, x37, x38, x39, x40, x41, x42, x43, x44, x45, x46, x47, x48, x49, x50, x51, x52, x53, x54, rfl, rfl, hR⟩ := hJ
      refine ⟨_, rfl, ?_⟩
      obtain ⟨rfl, rfl, rfl⟩ := three hR.out.2
      have hE : errV rc = .iface 45 (.agg #[.int .i64 rc]) := if_neg (by have := hR.out.1; omega)
      have HE := hid' hE
      clear hR hE hr hJ
      go_wp2
      go_quiet (fail)
      go_wp2
      rw [exitJumps_ret]
      go_ret3
      exact ⟨retT rfl rfl HE.out.symm, ((Below.refl _ _).alloc (Nat.le_refl _) _).trans ⟨rfl, rfl, rfl, Nat.le_refl _, fun _ _ => rfl⟩⟩
    | 2, _, hJ =>
      obtain ⟨k, u, c, at1, u1, sh, c1, x12, x13, x14, x15, x16, x17, x18, x19, x20, x21, x22, x23, x24, x25, x26, x27, x28, x29, x30, x31, x32, x33, x34, x35, x36, x37, x38, x39, x40, x41, x42, x43, x44, x45, x46, x47, x48, x49, x50, x51, x52, x53, x54, rfl, rfl, hk, hc, hp, rfl, rfl, rfl, rfl, hR⟩ := hJ
      refine ⟨_, rfl, ?_⟩
      clear hr hJ
      by_cases hz : c = 0 ∧ 0 < k
      · have e3 := hR.out.2.2
        rw [if_pos hz] at e3
        have E3 : Hid ((0, 0, 3) = (rn, ra, rc)) := e3
        have hz1 : ((c : Int) == 0) = true := by simp; omega
        have hz2 : (0 : Int) < 7 * (k : Int) := by omega
        clear hR e3 hz
        go_wp2
        go_step3
        exact ⟨⟨3, _, _, _, _, _, _, _, _, _, _, _, _, _, _, _, _, _, _, _, _, _, _, _, _, _, _, _, _, _, _, _, _, _, _, _, _, _, _, _, _, _, _, _, _, _, _, _, rfl, rfl, Or.inl rfl, E3.out⟩, by show 0 < 1; omega⟩
      · have e3 := hR.out.2.2
        rw [if_neg hz] at e3
        obtain ⟨rfl, rfl, rfl⟩ := three e3
        have hlv := last_val hR.out.1 hk hc hR.out.2.1
        have hvl := acc_lt hR.out.1 hk hc hR.out.2.1
        have HG0 : ∃ v, u + c * 128 ^ k = v := ⟨_, rfl⟩
        obtain ⟨v, hg⟩ := HG0
        rw [hg] at hlv hvl
        have HG : Hid (u + c * 128 ^ k = v) := hg
        have hvl' : (v : Int) ≤ 18446744073709551615 := by omega
        clear hR e3 hg hvl
        by_cases hc0 : ((c : Int) == 0) = true
        · have hk0 : ¬ ((0 : Int) < 7 * (k : Int)) := by simp at hc0; omega
          clear hz
          go_wp2_with (go_at_call 24; refine (unfoldSign_any _ _ hvl').mono ?_; rintro e w1 ⟨rfl, rfl⟩)
          rw [exitJumps_ret]
          go_ret3
          exact ⟨retT (by rw [HG.out]) (by omega) rfl, by go_grown⟩
        · simp only [Bool.not_eq_true] at hc0
          clear hz
          go_wp2_with (go_at_call 24; refine (unfoldSign_any _ _ hvl').mono ?_; rintro e w1 ⟨rfl, rfl⟩)
          rw [exitJumps_ret]
          go_ret3
          exact ⟨retT (by rw [HG.out]) (by omega) rfl, by go_grown⟩
end Go.Proofs.YtldaebdioljnlaaDoor
