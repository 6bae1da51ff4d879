/- Proved here: impl.NextState answers the next state; all old memory stays (no conditions). · Proved here: laws.FnTcp answers true, whatever is drawn; all old memory stays (condition: the bytes that are drawn from can be read, at most 2^20 each). · Proved here: bytes that came in as an argument can be drawn from (a bridge; no program of its own). -/
import Derived.Test.YtedknnkdnccfmabAll0
import Derived.Laws.EntriesVeiled
import Derived.ChangeOld
section
namespace Go.Proofs.Ytedknnkdnccfmab
open Go.ChangeShapes Go.WideShapes Go.ChangeAt Go.RowKit
set_option linter.unusedVariables false
set_option maxRecDepth 100000

theorem field_lead (f : Nat) (W : World) : (Instr.field 36 (.agg #[.func (.func f) #[] #[]]) 0).run Try.prog W = .ok (.func (.func f) #[] #[]) W := by
  first
  | rfl
  | kernel_rfl
  | (simp [Instr.field, go_sem])
theorem leadOf_rst (s : Int) (w : World) :
    Calls Try.prog 21 #[.int .i64 s, .int .i64 5] w fun e w' => e = .returned (.agg #[.func (.func 26) #[] #[]]) ∧ Below w.heap.size w w' := by
  go_enter Try.func21, Try.ntmps21
  go_wp2
  refine bodyPost_ret (v := .agg #[.func (.func 26) #[] #[]]) (by simp [results, Try.results21, go_sem]) rfl ⟨rfl, (Below.refl _ _).alloc (Nat.le_refl _) _⟩
theorem leadOf_syn (s : Int) (w : World) :
    Calls Try.prog 21 #[.int .i64 s, .int .i64 1] w fun e w' => e = .returned (.agg #[.func (.func 27) #[] #[]]) ∧ Below w.heap.size w w' := by
  go_enter Try.func21, Try.ntmps21
  go_wp2
  refine bodyPost_ret (v := .agg #[.func (.func 27) #[] #[]]) (by simp [results, Try.results21, go_sem]) rfl ⟨rfl, (Below.refl _ _).alloc (Nat.le_refl _) _⟩
theorem leadOf_both (s : Int) (w : World) :
    Calls Try.prog 21 #[.int .i64 s, .int .i64 2] w fun e w' => e = .returned (.agg #[.func (.func 28) #[] #[]]) ∧ Below w.heap.size w w' := by
  go_enter Try.func21, Try.ntmps21
  go_wp2
  refine bodyPost_ret (v := .agg #[.func (.func 28) #[] #[]]) (by simp [results, Try.results21, go_sem]) rfl ⟨rfl, (Below.refl _ _).alloc (Nat.le_refl _) _⟩
theorem leadOf_ack (s : Int) (w : World) :
    Calls Try.prog 21 #[.int .i64 s, .int .i64 4] w fun e w' => e = .returned (.agg #[.func (.func 31) #[] #[]]) ∧ Below w.heap.size w w' := by
  go_enter Try.func21, Try.ntmps21
  go_wp2
  refine bodyPost_ret (v := .agg #[.func (.func 31) #[] #[]]) (by simp [results, Try.results21, go_sem]) rfl ⟨rfl, (Below.refl _ _).alloc (Nat.le_refl _) _⟩
theorem leadOf_fin (s : Int) (w : World) (h : stB s = true) (he : endedB s = false) :
    Calls Try.prog 21 #[.int .i64 s, .int .i64 3] w fun e w' => e = .returned (.agg #[.func (.func 30) #[] #[]]) ∧ Below w.heap.size w w' := by
  have HE := hidS (fun W => isEnded_any s W h)
  rw [he] at HE
  clear h he
  go_enter Try.func21, Try.ntmps21
  go_wp2_with (go_at_call 29; refine (HE.out _).mono ?_; rintro e w1 ⟨rfl, rfl⟩)
  refine bodyPost_ret (v := .agg #[.func (.func 30) #[] #[]]) (by simp [results, Try.results21, go_sem]) rfl ⟨rfl, (Below.refl _ _).alloc (Nat.le_refl _) _⟩
theorem leadOf_finE (s : Int) (w : World) (h : stB s = true) (he : endedB s = true) :
    Calls Try.prog 21 #[.int .i64 s, .int .i64 3] w fun e w' => e = .returned (.agg #[.func (.func 31) #[] #[]]) ∧ Below w.heap.size w w' := by
  have HE := hidS (fun W => isEnded_any s W h)
  rw [he] at HE
  clear h he
  go_enter Try.func21, Try.ntmps21
  go_wp2_with (go_at_call 29; refine (HE.out _).mono ?_; rintro e w1 ⟨rfl, rfl⟩)
  refine bodyPost_ret (v := .agg #[.func (.func 31) #[] #[]]) (by simp [results, Try.results21, go_sem]) rfl ⟨rfl, (Below.refl _ _).alloc (Nat.le_refl _) _⟩
theorem leadOf_no (s : Int) (g : Int) (w : World) (h1 : g ≠ 1) (h2 : g ≠ 2) (h3 : g ≠ 3) (h4 : g ≠ 4) (h5 : g ≠ 5) :
    Calls Try.prog 21 #[.int .i64 s, .int .i64 g] w fun e w' => e = .returned (.agg #[.func (.func 32) #[] #[]]) ∧ Below w.heap.size w w' := by
  have n1 : (g == 1) = false := beq_eq_false_iff_ne.2 h1
  have n2 : (g == 2) = false := beq_eq_false_iff_ne.2 h2
  go_enter Try.func21, Try.ntmps21
  go_wp2
  refine bodyPost_ret (v := .agg #[.func (.func 32) #[] #[]]) (by simp [results, Try.results21, go_sem]) rfl ⟨rfl, (Below.refl _ _).alloc (Nat.le_refl _) _⟩
set_option maxHeartbeats 2000000 in
theorem next_step (s : Int) (b : Bool) (g : Int) (w : World) (f : Nat) (r : Int) (h : stB s = true)
    (HL : ∀ W, Calls Try.prog 21 #[.int .i64 s, .int .i64 g] W fun e w' => e = .returned (.agg #[.func (.func f) #[] #[]]) ∧ Below W.heap.size W w')
    (hc : ∀ W, (callFunc f #[.int .i64 s, .bool b]).run Try.prog W = .ok (.enter f #[.int .i64 s, .bool b]) W)
    (HA : ∀ W, Calls Try.prog f #[.int .i64 s, .bool b] W fun e w' => e = .returned (.int .i64 r) ∧ w' = W) :
    Calls Try.prog 5 #[.int .i64 s, .bool b, .int .i64 g] w fun e w' => e = .returned (.int .i64 r) ∧ Below w.heap.size w w' := by
  have HS := hidS (fun W => isState_any s W)
  rw [h] at HS
  have HL := hidS HL
  have HA := hidS HA
  have HC := hidS hc
  clear h hc
  go_enter Try.func5, Try.ntmps5
  go_wp2_with fail
  refine (HS.out _).mono ?_
  rintro e w1 ⟨rfl, rfl⟩
  go_wp2_with fail
  refine (HL.out _).mono ?_
  rintro e w2 ⟨rfl, hb⟩
  have hF := field_lead f
  go_wp2_with fail
  rw [HC.out, Oper.upon_enter]
  refine (HA.out _).mono ?_
  rintro e w3 ⟨rfl, rfl⟩
  go_wp2
  go_ret
  exact ⟨rfl, hb⟩
theorem fin_ack {s : Int} (b : Bool) (h : stB s = true) (he : endedB s = true) : ackZ s b = finZ s := by
  rcases states h with rfl | rfl | rfl | rfl | rfl | rfl | rfl | rfl | rfl <;> first | rfl | cases he
theorem implNext_any (s : Int) (b : Bool) (g : Int) (w : World) :
    Calls Try.prog 5 #[.int .i64 s, .bool b, .int .i64 g] w fun e w' => e = .returned (.int .i64 (nextZ s b g)) ∧ Below w.heap.size w w' := by
  cases h : stB s
  · have HS := hidS (fun W => isState_any s W)
    rw [h] at HS
    rw [next_no b g h]
    clear h
    go_enter Try.func5, Try.ntmps5
    go_wp2_with fail
    refine (HS.out _).mono ?_
    rintro e w1 ⟨rfl, rfl⟩
    go_wp2
    go_ret
    exact ⟨rfl, Below.refl _ _⟩
  · rw [next_at b g h]
    by_cases h5 : g = 5
    · rw [if_pos h5]; subst h5
      exact next_step s b 5 w _ _ h (fun W => leadOf_rst s W) (fun W => by kernel_rfl) (fun W => afterReset_any s b W h)
    rw [if_neg h5]
    by_cases h1 : g = 1
    · rw [if_pos h1]; subst h1
      exact next_step s b 1 w _ _ h (fun W => leadOf_syn s W) (fun W => by kernel_rfl) (fun W => afterSyn_any s b W h)
    rw [if_neg h1]
    by_cases h2 : g = 2
    · rw [if_pos h2]; subst h2
      exact next_step s b 2 w _ _ h (fun W => leadOf_both s W) (fun W => by kernel_rfl) (fun W => afterBoth_any s b W h)
    rw [if_neg h2]
    by_cases h3 : g = 3
    · rw [if_pos h3]; subst h3
      cases he : endedB s
      · exact next_step s b 3 w _ _ h (fun W => leadOf_fin s W h he) (fun W => by kernel_rfl) (fun W => afterFin_any s b W h he)
      · rw [← fin_ack b h he]
        exact next_step s b 3 w _ _ h (fun W => leadOf_finE s W h he) (fun W => by kernel_rfl) (fun W => afterAck_any s b W h)
    rw [if_neg h3]
    by_cases h4 : g = 4
    · rw [if_pos h4]; subst h4
      exact next_step s b 4 w _ _ h (fun W => leadOf_ack s W) (fun W => by kernel_rfl) (fun W => afterAck_any s b W h)
    rw [if_neg h4]
    exact next_step s b g w _ _ h (fun W => leadOf_no s g W h1 h2 h3 h4 h5) (fun W => by kernel_rfl) (fun W => nowhere_any s b W)
end Go.Proofs.Ytedknnkdnccfmab
end

section
namespace Go.Proofs.Ytedknnkdnccfmab
open Go.ChangeShapes Go.WideShapes Go.ChangeAt Go.RowKit
set_option linter.unusedVariables false
set_option maxRecDepth 100000

theorem rowAt_later {B : Nat} {a : Option Addr} {len : Nat} {w w' : World} (h : RowAt B a len w) (hb : Below B w w') : RowAt B a len w' := h.below fun k hk => hb.block k hk
theorem rowAt_up {B C : Nat} {a : Option Addr} {len : Nat} {w : World} (h : RowAt B a len w) (hb : B ≤ C) : RowAt C a len w := fun j hj => by
  obtain ⟨b, o, h1, h2, h3⟩ := h j hj
  exact ⟨b, o, h1, by omega, h3⟩
set_option maxHeartbeats 4000000 in
theorem fnTcp_in (a0 : Option Addr) (len0 cap0 : Nat) (a1 : Option Addr) (len1 cap1 : Nat) (w : World) (h0 : RowAt w.heap.size a0 len0 w) (h1 : RowAt w.heap.size a1 len1 w) (hl0 : len0 ≤ 1048576) (hl1 : len1 ≤ 1048576) :
    Calls Try.prog 3 #[.slice a0 len0 cap0, .slice a1 len1 cap1] w fun e w' => e = .returned (.bool true) ∧ Below w.heap.size w w' := by
  have g0 : ¬ ((1048576 : Int) < (len0 : Int)) := by omega
  have g1 : ¬ ((1048576 : Int) < (len1 : Int)) := by omega
  have H0 := hidS h0
  have H1 := hidS h1
  clear h0 h1
  go_enter Try.func3, Try.ntmps3
  go_wp2_with fail
  refine (drawNext_any a0 len0 cap0 _ H0.out hl0).mono ?_
  rintro _ w1 ⟨s, b, g, rfl, hb1⟩
  have HI := hidS (fun W => implNext_any s b g W)
  have HS := hidS (fun W => specNext_any s b g W)
  have N0 := next_not0 s b g
  generalize nextZ s b g = n at *
  have hL1 := hidS hb1
  clear hb1
  go_wp2_with fail
  refine (HI.out _).mono ?_
  rintro _ w2 ⟨rfl, hb2⟩
  have hL2 := hidS (hL1.out.trans (hb2.mono hL1.out.size))
  clear hb2 hL1
  go_wp2_with fail
  refine (drawSign_any a1 len1 cap1 _ (rowAt_up (rowAt_later H1.out hL2.out) hL2.out.size) hl1).mono ?_
  rintro _ w3 ⟨f, rfl, hf0, hf1, hb3⟩
  have hL3 := hidS (hL2.out.trans (hb3.mono hL2.out.size))
  clear hb3 hL2
  go_wp2_with fail
  refine (drawLife_any a1 len1 cap1 _ (rowAt_up (rowAt_later H1.out hL3.out) hL3.out.size) hl1).mono ?_
  rintro _ w4 ⟨l, rfl, hl2, hl3, hb4⟩
  have hL4 := hidS (hL3.out.trans (hb4.mono hL3.out.size))
  clear hb4 hL3
  go_wp2_with fail
  refine (drawName_any a0 len0 cap0 _ (rowAt_up (rowAt_later H0.out hL4.out) hL4.out.size) hl0).mono ?_
  rintro _ w5 ⟨m, rfl, hm2, hm3, hb5⟩
  have hL5 := hidS (hL4.out.trans (hb5.mono hL4.out.size))
  clear hb5 hL4 hf0 hf1 hl2 hl3 hm2 hm3
  have SI := hidS (fun W => implSign_any f W)
  have SS := hidS (fun W => specSign_any f W)
  generalize signZ f = fz at SI SS
  have LI := hidS (fun W => implLife_any l W)
  have LS := hidS (fun W => specLife_any l W)
  generalize lifeZ l = lz at LI LS
  have MI := hidS (fun W => implName_any m W)
  have MS := hidS (fun W => specName_any m W)
  generalize nameZ m = mz at MI MS
  go_wp2_with fail
  refine (HS.out _).mono ?_
  rintro _ w6 ⟨rfl, rfl⟩
  go_wp2_with fail
  refine (SI.out _).mono ?_
  rintro _ w6 ⟨rfl, rfl⟩
  go_wp2_with fail
  refine (SS.out _).mono ?_
  rintro _ w6 ⟨rfl, rfl⟩
  go_wp2_with fail
  refine (LI.out _).mono ?_
  rintro _ w7 ⟨rfl, hb7⟩
  have hL7 := hidS (hL5.out.trans (hb7.mono hL5.out.size))
  clear hb7 hL5
  go_wp2_with fail
  refine (LS.out _).mono ?_
  rintro _ w8 ⟨rfl, hb8⟩
  have hL8 := hidS (hL7.out.trans (hb8.mono hL7.out.size))
  clear hb8 hL7
  go_wp2_with fail
  refine (MI.out _).mono ?_
  rintro _ w9 ⟨rfl, hb9⟩
  have hL9 := hidS (hL8.out.trans (hb9.mono hL8.out.size))
  clear hb9 hL8
  go_wp2_with fail
  refine (MS.out _).mono ?_
  rintro _ w10 ⟨rfl, hb10⟩
  have hL10 := hidS (hL9.out.trans (hb10.mono hL9.out.size))
  clear hb10 hL9
  go_wp2_with fail
  clear HI HS N0 SI SS LI LS MI MS
  go_loopw [12, 13] (fun s i wr => ∃ z j : Int, s = .int .i64 z ∧ i = .int .i64 j ∧ stB z = true ∧ 0 ≤ j ∧ j ≤ 12 ∧ Below w.heap.size w wr) (fun _ i _ => (12 - intOf i).toNat)
  case atStart => exact ⟨0, 0, rfl, rfl, rfl, by decide, by decide, hL10.out⟩
  case round =>
    obtain ⟨z, j, rfl, rfl, hz, hj0, hj1, hbr⟩ := hrel
    have hBr := hidS hbr
    have HZ := hidS hz
    clear hbr hL10 hz
    by_cases hj : j < 12
    · go_wp2_with fail
      refine (lwAt_any _ a1 len1 cap1 _ 2 wr (rowAt_later H1.out hBr.out) hl1 (by omega) (by omega) (by omega)).mono ?_
      rintro _ w11 ⟨r, rfl, hr0, hr1, rfl⟩
      obtain ⟨b, hrb⟩ : ∃ b : Bool, (r == 1) = b := ⟨_, rfl⟩
      clear hr0 hr1
      go_wp2_with fail
      refine (lwAt_any _ a1 len1 cap1 _ 6 w11 (rowAt_later H1.out hBr.out) hl1 (by omega) (by omega) (by omega)).mono ?_
      rintro _ w12 ⟨g, rfl, hq0, hq1, rfl⟩
      have hq2 : g ≤ 5 := by omega
      clear hq1
      have HI := hidS (fun W => implNext_any z b g W)
      have HS := hidS (fun W => specNext_any z b g W)
      have HT := hidS (turn_of z b g HZ.out hq0 hq2)
      generalize nextZ z b g = k at HI HS HT
      have HT' : Turn z b g k := HT.out
      unfold Turn at HT'
      clear HT
      rcases HT' with ⟨rfl, rfl, rfl, rfl⟩ | ⟨rfl, rfl, rfl⟩ | ⟨rfl, e1, rfl⟩ | ⟨rfl, rfl, rfl⟩ | ⟨rfl, rfl, rfl, rfl⟩ | ⟨rfl, e1, rfl⟩ | ⟨rfl, e1, rfl⟩ | ⟨e1, e2, rfl, rfl⟩ | ⟨e1, e2, e3, rfl⟩ | ⟨e1, e2, e3, k0, k8⟩
      · go_wp2_with fail
        refine (HI.out _).mono ?_
        rintro _ w13 ⟨rfl, hb13⟩
        have hB13 := hidS (hBr.out.trans (hb13.mono hBr.out.size))
        clear hb13
        go_wp2_with fail
        refine (HS.out _).mono ?_
        rintro _ w14 ⟨rfl, rfl⟩
        go_wp2
        go_roundw
        case rel => exact ⟨1, j + 1, rfl, rfl, rfl, by omega, by omega, hB13.out⟩
        case measure => simp [intOf]; omega
      · go_wp2_with fail
        refine (HI.out _).mono ?_
        rintro _ w13 ⟨rfl, hb13⟩
        have hB13 := hidS (hBr.out.trans (hb13.mono hBr.out.size))
        clear hb13
        go_wp2_with fail
        refine (HS.out _).mono ?_
        rintro _ w14 ⟨rfl, rfl⟩
        go_wp2
        go_roundw
        case rel => exact ⟨0, j + 1, rfl, rfl, rfl, by omega, by omega, hB13.out⟩
        case measure => simp [intOf]; omega
      · go_wp2_with fail
        refine (HI.out _).mono ?_
        rintro _ w13 ⟨rfl, hb13⟩
        have hB13 := hidS (hBr.out.trans (hb13.mono hBr.out.size))
        clear hb13
        go_wp2_with fail
        refine (HS.out _).mono ?_
        rintro _ w14 ⟨rfl, rfl⟩
        go_wp2
        go_roundw
        case rel => exact ⟨0, j + 1, rfl, rfl, rfl, by omega, by omega, hB13.out⟩
        case measure => simp [intOf]; omega
      · go_wp2_with fail
        refine (HI.out _).mono ?_
        rintro _ w13 ⟨rfl, hb13⟩
        have hB13 := hidS (hBr.out.trans (hb13.mono hBr.out.size))
        clear hb13
        go_wp2_with fail
        refine (HS.out _).mono ?_
        rintro _ w14 ⟨rfl, rfl⟩
        go_wp2
        go_roundw
        case rel => exact ⟨8, j + 1, rfl, rfl, rfl, by omega, by omega, hB13.out⟩
        case measure => simp [intOf]; omega
      · go_wp2_with fail
        refine (HI.out _).mono ?_
        rintro _ w13 ⟨rfl, hb13⟩
        have hB13 := hidS (hBr.out.trans (hb13.mono hBr.out.size))
        clear hb13
        go_wp2_with fail
        refine (HS.out _).mono ?_
        rintro _ w14 ⟨rfl, rfl⟩
        go_wp2
        go_roundw
        case rel => exact ⟨1, j + 1, rfl, rfl, rfl, by omega, by omega, hB13.out⟩
        case measure => simp [intOf]; omega
      · go_wp2_with fail
        refine (HI.out _).mono ?_
        rintro _ w13 ⟨rfl, hb13⟩
        have hB13 := hidS (hBr.out.trans (hb13.mono hBr.out.size))
        clear hb13
        go_wp2_with fail
        refine (HS.out _).mono ?_
        rintro _ w14 ⟨rfl, rfl⟩
        go_wp2
        go_roundw
        case rel => exact ⟨8, j + 1, rfl, rfl, rfl, by omega, by omega, hB13.out⟩
        case measure => simp [intOf]; omega
      · go_wp2_with fail
        refine (HI.out _).mono ?_
        rintro _ w13 ⟨rfl, hb13⟩
        have hB13 := hidS (hBr.out.trans (hb13.mono hBr.out.size))
        clear hb13
        go_wp2_with fail
        refine (HS.out _).mono ?_
        rintro _ w14 ⟨rfl, rfl⟩
        go_wp2
        go_roundw
        case rel => exact ⟨8, j + 1, rfl, rfl, rfl, by omega, by omega, hB13.out⟩
        case measure => simp [intOf]; omega
      · have e4 : ¬ z = 0 := by simpa using e1
        go_wp2_with fail
        refine (HI.out _).mono ?_
        rintro _ w13 ⟨rfl, hb13⟩
        have hB13 := hidS (hBr.out.trans (hb13.mono hBr.out.size))
        clear hb13
        go_wp2_with fail
        refine (HS.out _).mono ?_
        rintro _ w14 ⟨rfl, rfl⟩
        go_wp2
        go_roundw
        case rel => exact ⟨8, j + 1, rfl, rfl, rfl, by omega, by omega, hB13.out⟩
        case measure => simp [intOf]; omega
      · go_wp2_with fail
        refine (HI.out _).mono ?_
        rintro _ w13 ⟨rfl, hb13⟩
        have hB13 := hidS (hBr.out.trans (hb13.mono hBr.out.size))
        clear hb13
        go_wp2_with fail
        refine (HS.out _).mono ?_
        rintro _ w14 ⟨rfl, rfl⟩
        go_wp2
        go_roundw
        case rel => exact ⟨z, j + 1, rfl, rfl, HZ.out, by omega, by omega, hB13.out⟩
        case measure => simp [intOf]; omega
      · go_wp2_with fail
        refine (HI.out _).mono ?_
        rintro _ w13 ⟨rfl, hb13⟩
        have hB13 := hidS (hBr.out.trans (hb13.mono hBr.out.size))
        clear hb13
        go_wp2_with fail
        refine (HS.out _).mono ?_
        rintro _ w14 ⟨rfl, rfl⟩
        go_wp2
        go_roundw
        case rel => exact ⟨k, j + 1, rfl, rfl, stB_iff.2 ⟨k0, k8⟩, by omega, by omega, hB13.out⟩
        case measure => simp [intOf]; omega
    · go_wp2
      go_ret
      exact ⟨rfl, hBr.out⟩
end Go.Proofs.Ytedknnkdnccfmab
end

section
namespace Go.Proofs.Ytedknnkdnccfmab
open Go.RowKit

/-- what a walk is told of bytes that came in: nil; or a row of 'cap' numbers zs, the first 'len' its elements -/
def IsRow (k : IntKind) (w : World) (a : Option Addr) (len cap : Nat) (zs : List Int) : Prop :=
  (a = none ∧ len = 0 ∧ cap = 0 ∧ zs = []) ∨
  ∃ x, a = some x ∧ len ≤ cap ∧ cap ≤ maxLen ∧ zs.length = cap ∧ (∀ i, i < zs.length → w.cell? (x.add i) = some (.int k (zs.getD i 0))) ∧ ∀ n ∈ zs, (Lit.int k n).wf = true

theorem rowAt_of {w : World} {a : Option Addr} {len cap : Nat} {zs : List Int} (h : IsRow .u8 w a len cap zs) : RowAt w.heap.size a len w := by
  intro j hj
  rcases h with ⟨rfl, rfl, rfl, rfl⟩ | ⟨x, rfl, hl, hm, hz, hcell, hwz⟩
  · omega
  · have hc0 := hcell j (by omega)
    have hspot : x.spot = none := by simpa [Addr.add] using World.cell?_spot (hcell 0 (by omega))
    obtain ⟨b, o, sp⟩ := x
    simp only at hspot
    subst hspot
    have hmem : zs.getD j 0 ∈ zs := by
      rw [List.getD_eq_getElem?_getD, List.getElem?_eq_getElem (by omega)]
      exact List.getElem_mem _
    have hb := bounds_u8 (hwz _ hmem)
    have hc : w.cell? ⟨b, o + j, none⟩ = some (.int .u8 (zs.getD j 0)) := by rw [Addr.add_lit] at hc0; exact hc0
    exact ⟨b, o, rfl, World.block_lt_of_cell? w ⟨b, o + j, none⟩ hc, zs.getD j 0, hb.1, by omega, hc⟩
theorem isRow_len {w : World} {a : Option Addr} {len cap : Nat} {zs : List Int} (h : IsRow .u8 w a len cap zs) : len ≤ maxLen := by
  rcases h with ⟨rfl, rfl, rfl, rfl⟩ | ⟨x, rfl, hl, hm, _⟩
  · exact Nat.zero_le _
  · omega
theorem RowAt.mono {B B' : Nat} {a : Option Addr} {len : Nat} {w : World} (h : RowAt B a len w) (hB : B ≤ B') : RowAt B' a len w := by
  intro j hj
  obtain ⟨b, o, e, hlt, r⟩ := h j hj
  exact ⟨b, o, e, by omega, r⟩
/-- .. and later on too -/
theorem RowAt.later {a : Option Addr} {len : Nat} {w w' : World} (h : RowAt w.heap.size a len w) (hb : Below w.heap.size w w') : RowAt w'.heap.size a len w' :=
  (h.below fun k hk => hb.block k hk).mono hb.size
end Go.Proofs.Ytedknnkdnccfmab
end
