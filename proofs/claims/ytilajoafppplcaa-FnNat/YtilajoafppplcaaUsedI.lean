/- Proved here: slices.Index and slices.Contains of tuples tell whether one is of them, impl.isUsed whether it or its other way is; all old memory stays (conditions: they can be read; at most 2^20; a right tuple). -/
import Derived.Test.YtilajoafppplcaaAll17
import Derived.Test.YtilajoafppplcaaAll20
import Derived.Test.YtilajoafppplcaaAll14
import Derived.Test.YtilajoafppplcaaInvI
import Derived.Test.YtilajoafppplcaaAll18
import Derived.Deep.Cut
namespace Go.Proofs.Ytilajoafppplcaa
open Go.ChangeShapes Go.WideShapes Go.ChangeAt Go.RowKit
set_option linter.unusedVariables false
set_option linter.unusedSimpArgs false
set_option maxRecDepth 100000

set_option maxHeartbeats 4000000 in
theorem idxT_any (a : Option Addr) (cap : Nat) (l : List Tp) (t : Tp) (w : World) (hR : RowZ a (flatTuple l) w) (hz : l.length ≤ 1048576) :
    Calls Try.prog 133 #[.slice a l.length cap, .agg #[.int .i64 t.proto, .int .i64 t.src, .int .i64 t.sport, .int .i64 t.dst, .int .i64 t.dport, .int .i64 t.kind]] w fun e w' => (∃ r : Int, e = .returned (.int .i64 r) ∧ decide (0 ≤ r) = hasT l t) ∧ Below w.heap.size w w' := by
  have HR := hidS hR
  clear hR
  have hGT0 : Hid ((w.alloc (.cells #[.int .i64 t.proto, .int .i64 t.src, .int .i64 t.sport, .int .i64 t.dst, .int .i64 t.dport, .int .i64 t.kind] 52)).heap[w.heap.size]? = some (.cells #[.int .i64 t.proto, .int .i64 t.src, .int .i64 t.sport, .int .i64 t.dst, .int .i64 t.dport, .int .i64 t.kind] 52)) := by
    show _ = _
    have := heap_newG w (.cells #[.int .i64 t.proto, .int .i64 t.src, .int .i64 t.sport, .int .i64 t.dst, .int .i64 t.dport, .int .i64 t.kind] 52)
    simpa using this
  have hL0 := hidS ((Below.refl w.heap.size w).alloc (Nat.le_refl _) (.cells #[.int .i64 t.proto, .int .i64 t.src, .int .i64 t.sport, .int .i64 t.dst, .int .i64 t.dport, .int .i64 t.kind] 52))
  go_enter Try.func133, Try.ntmps133
  go_wp2_with fail
  generalize (w.alloc (.cells #[.int .i64 t.proto, .int .i64 t.src, .int .i64 t.sport, .int .i64 t.dst, .int .i64 t.dport, .int .i64 t.kind] 52)) = w0 at hGT0 hL0 ⊢
  go_loopw [8] (fun i wr => ∃ k : Nat, i = .int .i64 (k : Int) ∧ k ≤ l.length ∧ Hid (hasT (l.take k) t = false) ∧ Hid (wr.heap[w.heap.size]? = some (.cells #[.int .i64 t.proto, .int .i64 t.src, .int .i64 t.sport, .int .i64 t.dst, .int .i64 t.dport, .int .i64 t.kind] 52)) ∧ Below w.heap.size w wr) (fun i _ => (l.length - (intOf i).toNat))
  case atStart => exact ⟨0, rfl, Nat.zero_le _, rfl, hGT0, hL0.out⟩
  case round =>
    clear hGT0 hL0
    obtain ⟨k, rfl, hk, hF, hGT5, hb5⟩ := hrel
    obtain ⟨w5, hwr⟩ : ∃ x, x = wr := ⟨_, rfl⟩
    subst hwr
    have hL5 := hidS hb5
    clear hb5
    by_cases hlt : k < l.length
    · skip
      have hlt' : (0 : Int) ≤ (k : Int) ∧ (k : Int) < (l.length : Int) := by omega
      have hlt2 := hlt'.2
      obtain ⟨b, o, rfl, hbl, c0, c1, c2, c3, c4, c5⟩ := (HR.out.later hL5.out).tuple hlt
      have HF1 := hidS (fun q => hasT_here (t := t) hlt q)
      have HF0 := hidS (hasT_take (t := t) hlt)
      generalize l.getD k zeroTp = s at *
      obtain ⟨hb, h4⟩ : ∃ x, sameT t s = x := ⟨_, rfl⟩
      have q4 : Hid (∀ W, (binOp .eql 52 (.agg #[.int .i64 t.proto, .int .i64 t.src, .int .i64 t.sport, .int .i64 t.dst, .int .i64 t.dport, .int .i64 t.kind]) (.agg #[.int .i64 s.proto, .int .i64 s.src, .int .i64 s.sport, .int .i64 s.dst, .int .i64 s.dport, .int .i64 s.kind])).run Try.prog W = .ok (.bool hb) W) := hidS (fun W => by rw [eql_tup, h4])
      have H4 := hidS h4
      clear h4
      go_wp2_with fail
      refine grow_guarded 6 [.is (.agg #[.int .i64 t.proto, .int .i64 t.src, .int .i64 t.sport, .int .i64 t.dst, .int .i64 t.dport, .int .i64 t.kind]), .is (.slice (some ⟨b, o, none⟩) l.length cap), .is (.int .i64 (k : Int)), .is (.pointer (some ⟨b, o + k * 6, none⟩)), .is (.agg #[.int .i64 s.proto, .int .i64 s.src, .int .i64 s.sport, .int .i64 s.dst, .int .i64 s.dport, .int .i64 s.kind]), .is (.bool hb)] rfl (by kernel_rfl) (by kernel_rfl) ?stepsA ?finA
      case stepsA =>
        refine ⟨?_, ?_, ?_, ?_, ?_, ?_, trivial⟩
        · refine stepW_of_u ⟨rfl, fun v W ρ hC kc kf ks ki kd => ?_⟩
          have t3 : ρ (.tmp 3) = .pointer (some ⟨w.heap.size, 0, none⟩) := ki 3 (by decide)
          have hg := blk_later hGT5.out hC
          have c0 := blk_cell hg 0
          have c1 := blk_cell hg 1
          have c2 := blk_cell hg 2
          have c3 := blk_cell hg 3
          have c4 := blk_cell hg 4
          have c5 := blk_cell hg 5
          simp at c0 c1 c2 c3 c4 c5
          simp [execOp, go_sem, kc, t3, c0, c1, c2, c3, c4, c5]
          exact ⟨hC, Below.refl _ _, rfl⟩
        · refine stepW_of_u ⟨rfl, fun v W ρ hC kc kf ks ki kd => ?_⟩
          have t0 : ρ (.tmp 0) = .slice (some ⟨b, o, none⟩) l.length cap := ki 0 (by decide)
          simp [execOp, go_sem, kc, t0]
          exact ⟨hC, Below.refl _ _, rfl⟩
        · refine stepW_of_u ⟨rfl, fun v W ρ hC kc kf ks ki kd => ?_⟩
          have t5 : ρ (.tmp 5) = .int .i64 (k : Int) := ki 5 (by decide)
          simp [execOp, go_sem, kc, t5]
          exact ⟨hC, Below.refl _ _, rfl⟩
        · refine stepW_of_u ⟨rfl, fun v W ρ hC kc kf ks ki kd => ?_⟩
          have d1 : v 1 = .slice (some ⟨b, o, none⟩) l.length cap := (kdj kd 1 rfl :)
          have t12 : ρ (.tmp 12) = .slice (some ⟨b, o, none⟩) l.length cap := (ks 1 12 (by decide) rfl).trans d1
          have d2 : v 2 = .int .i64 (k : Int) := (kdj kd 2 rfl :)
          have t13 : ρ (.tmp 13) = .int .i64 (k : Int) := (ks 2 13 (by decide) rfl).trans d2
          simp [execOp, go_sem, kc, t12, t13, hlt']
          exact ⟨hC, Below.refl _ _, rfl⟩
        · refine stepW_of_u ⟨rfl, fun v W ρ hC kc kf ks ki kd => ?_⟩
          have d3 : v 3 = .pointer (some ⟨b, o + k * 6, none⟩) := (kdj kd 3 rfl :)
          have t14 : ρ (.tmp 14) = .pointer (some ⟨b, o + k * 6, none⟩) := (ks 3 14 (by decide) rfl).trans d3
          have e0 := (hC.cell (p := ⟨b, o + k * 6, none⟩) hbl).trans c0
          have e1 := (hC.cell (p := ⟨b, o + k * 6 + 1, none⟩) hbl).trans c1
          have e2 := (hC.cell (p := ⟨b, o + k * 6 + 2, none⟩) hbl).trans c2
          have e3 := (hC.cell (p := ⟨b, o + k * 6 + 3, none⟩) hbl).trans c3
          have e4 := (hC.cell (p := ⟨b, o + k * 6 + 4, none⟩) hbl).trans c4
          have e5 := (hC.cell (p := ⟨b, o + k * 6 + 5, none⟩) hbl).trans c5
          simp [execOp, go_sem, kc, t14, e0, e1, e2, e3, e4, e5]
          exact ⟨hC, Below.refl _ _, rfl⟩
        · refine stepW_of_u ⟨rfl, fun v W ρ hC kc kf ks ki kd => ?_⟩
          have d0 : v 0 = .agg #[.int .i64 t.proto, .int .i64 t.src, .int .i64 t.sport, .int .i64 t.dst, .int .i64 t.dport, .int .i64 t.kind] := (kdj kd 0 rfl :)
          have t11 : ρ (.tmp 11) = .agg #[.int .i64 t.proto, .int .i64 t.src, .int .i64 t.sport, .int .i64 t.dst, .int .i64 t.dport, .int .i64 t.kind] := (ks 0 11 (by decide) rfl).trans d0
          have d4 : v 4 = .agg #[.int .i64 s.proto, .int .i64 s.src, .int .i64 s.sport, .int .i64 s.dst, .int .i64 s.dport, .int .i64 s.kind] := (kdj kd 4 rfl :)
          have t15 : ρ (.tmp 15) = .agg #[.int .i64 s.proto, .int .i64 s.src, .int .i64 s.sport, .int .i64 s.dst, .int .i64 s.dport, .int .i64 s.kind] := (ks 4 15 (by decide) rfl).trans d4
          have eg : Try.prog.eqGuardType Try.prog.depth 52 = false := by kernel_rfl
          have e1 := q4.out W
          simp only [execOp, t11, t15, Sem.run_bind, run_eqGuard_agg, eg, e1, Result.andThen_ok, Sem.run_pure]
          exact ⟨hC, Below.refl _ _, rfl⟩
      intro vA w6 hbA hall
      have hvA : vA 5 = .bool hb := hall 5 (by decide)
      simp [upto, Act.put]
      rw [hvA]
      clear hall hvA
      have hGT6 := hidS (blk_later hGT5.out hbA)
      have hL6 := hidS (hL5.out.trans (hbA.mono hL5.out.size))
      clear hbA hGT5 hL5 c0 c1 c2 c3 c4 c5
      cases hb
      · have HN : Hid (hasT (l.take (k + 1)) t = false) := HF0.out.trans (by rw [hF.out, H4.out]; rfl)
        clear HF0 HF1 hF q4 H4
        go_wp2_with fail
        go_roundw
        case rel => exact ⟨k + 1, by simp, by omega, HN, hGT6, hL6.out⟩
        case measure => simp [intOf]; omega
      · have HN := hidS (HF1.out H4.out)
        clear HF0 HF1 hF q4 H4
        go_wp2_with fail
        go_ret
        exact ⟨⟨_, rfl, by rw [HN.out]; simp⟩, hL6.out⟩
    · have hge : ¬ (k : Int) < (l.length : Int) := by omega
      have HN : Hid (hasT l t = false) := by have := hF.out; rw [List.take_of_length_le (by omega)] at this; exact this
      clear hF hlt hk
      go_wp2_with fail
      go_ret
      exact ⟨⟨_, rfl, by rw [HN.out]; rfl⟩, hL5.out⟩
set_option maxHeartbeats 2000000 in
theorem contT_any (a : Option Addr) (cap : Nat) (l : List Tp) (t : Tp) (w : World) (hR : RowZ a (flatTuple l) w) (hz : l.length ≤ 1048576) :
    Calls Try.prog 113 #[.slice a l.length cap, .agg #[.int .i64 t.proto, .int .i64 t.src, .int .i64 t.sport, .int .i64 t.dst, .int .i64 t.dport, .int .i64 t.kind]] w fun e w' => e = .returned (.bool (hasT l t)) ∧ Below w.heap.size w w' := by
  have HR := hidS hR
  have HI := hidS (fun W (h : Below w.heap.size w W) => idxT_any a cap l t W (HR.out.later h) hz)
  clear hR
  have hGT0 : Hid ((w.alloc (.cells #[.int .i64 t.proto, .int .i64 t.src, .int .i64 t.sport, .int .i64 t.dst, .int .i64 t.dport, .int .i64 t.kind] 52)).heap[w.heap.size]? = some (.cells #[.int .i64 t.proto, .int .i64 t.src, .int .i64 t.sport, .int .i64 t.dst, .int .i64 t.dport, .int .i64 t.kind] 52)) := by
    show _ = _
    have := heap_newG w (.cells #[.int .i64 t.proto, .int .i64 t.src, .int .i64 t.sport, .int .i64 t.dst, .int .i64 t.dport, .int .i64 t.kind] 52)
    simpa using this
  have hL0 := hidS ((Below.refl w.heap.size w).alloc (Nat.le_refl _) (.cells #[.int .i64 t.proto, .int .i64 t.src, .int .i64 t.sport, .int .i64 t.dst, .int .i64 t.dport, .int .i64 t.kind] 52))
  go_enter Try.func113, Try.ntmps113
  have cT0 := blk_cell hGT0.out 0
  have cT1 := blk_cell hGT0.out 1
  have cT2 := blk_cell hGT0.out 2
  have cT3 := blk_cell hGT0.out 3
  have cT4 := blk_cell hGT0.out 4
  have cT5 := blk_cell hGT0.out 5
  simp at cT0 cT1 cT2 cT3 cT4 cT5
  go_wp2_with fail
  refine (HI.out _ hL0.out).mono ?_
  rintro _ w1 ⟨⟨r, rfl, hr⟩, hb1⟩
  have hL1 := hidS (hL0.out.trans (hb1.mono hL0.out.size))
  have HD := hidS hr
  clear hb1 hr hL0 hGT0 cT0 cT1 cT2 cT3 cT4 cT5
  go_wp2_with fail
  go_ret
  exact ⟨by rw [← HD.out]; rfl, hL1.out⟩
/-- it, or what Invert tells of it -/
def usedA (used : List Tp) (t : Tp) : Bool := hasT used t || hasT used (invAns t)
theorem usedA_right {used : List Tp} {t : Tp} (h : rightT t = true) : usedA used t = usedB used t := by unfold usedA usedB; rw [show invAns t = invT t from if_pos h]
set_option maxHeartbeats 2000000 in
theorem isUsed_gen (a : Option Addr) (cap : Nat) (l : List Tp) (t : Tp) (w : World) (hR : RowZ a (flatTuple l) w) (hz : l.length ≤ 1048576) :
    Calls Try.prog 71 #[.slice a l.length cap, .agg #[.int .i64 t.proto, .int .i64 t.src, .int .i64 t.sport, .int .i64 t.dst, .int .i64 t.dport, .int .i64 t.kind]] w fun e w' => e = .returned (.bool (usedA l t)) ∧ Below w.heap.size w w' := by
  have HR := hidS hR
  have HC := hidS (fun u W (h : Below w.heap.size w W) => contT_any a cap l u W (HR.out.later h) hz)
  have HV := hidS (fun W => implInv_any t W)
  have hE : Hid (usedA l t = (hasT l t || hasT l (invAns t))) := rfl
  clear hR
  cases h1 : hasT l t
  · have E := hidS (hE.out.trans (by rw [h1]))
    clear hE
    have hGT0 : Hid ((w.alloc (.cells #[.int .i64 t.proto, .int .i64 t.src, .int .i64 t.sport, .int .i64 t.dst, .int .i64 t.dport, .int .i64 t.kind] 52)).heap[w.heap.size]? = some (.cells #[.int .i64 t.proto, .int .i64 t.src, .int .i64 t.sport, .int .i64 t.dst, .int .i64 t.dport, .int .i64 t.kind] 52)) := by
      show _ = _
      have := heap_newG w (.cells #[.int .i64 t.proto, .int .i64 t.src, .int .i64 t.sport, .int .i64 t.dst, .int .i64 t.dport, .int .i64 t.kind] 52)
      simpa using this
    have hL0 := hidS ((Below.refl w.heap.size w).alloc (Nat.le_refl _) (.cells #[.int .i64 t.proto, .int .i64 t.src, .int .i64 t.sport, .int .i64 t.dst, .int .i64 t.dport, .int .i64 t.kind] 52))
    go_enter Try.func71, Try.ntmps71
    have cT0 := blk_cell hGT0.out 0
    have cT1 := blk_cell hGT0.out 1
    have cT2 := blk_cell hGT0.out 2
    have cT3 := blk_cell hGT0.out 3
    have cT4 := blk_cell hGT0.out 4
    have cT5 := blk_cell hGT0.out 5
    simp at cT0 cT1 cT2 cT3 cT4 cT5
    go_wp2_with fail
    refine (HC.out _ _ hL0.out).mono ?_
    rintro _ w1 ⟨rfl, hb1⟩
    have hL1 := hidS (hL0.out.trans (hb1.mono hL0.out.size))
    have hGT1 := hidS (blk_later hGT0.out hb1)
    clear hb1 hL0 hGT0 cT0 cT1 cT2 cT3 cT4 cT5
    rw [h1]
    have cT0 := blk_cell hGT1.out 0
    have cT1 := blk_cell hGT1.out 1
    have cT2 := blk_cell hGT1.out 2
    have cT3 := blk_cell hGT1.out 3
    have cT4 := blk_cell hGT1.out 4
    have cT5 := blk_cell hGT1.out 5
    simp at cT0 cT1 cT2 cT3 cT4 cT5
    go_wp2_with fail
    refine (HV.out _).mono ?_
    rintro _ w2 ⟨rfl, hb2⟩
    clear cT0 cT1 cT2 cT3 cT4 cT5
    have hGT2 := hidS (blk_later hGT1.out hb2)
    have hL2 := hidS (hL1.out.trans (hb2.mono hL1.out.size))
    clear hb2 hL1 hGT1
    go_wp2_with fail
    refine (HC.out _ _ hL2.out).mono ?_
    rintro _ w3 ⟨rfl, hb3⟩
    have hL3 := hidS (hL2.out.trans (hb3.mono hL2.out.size))
    clear hb3 hL2
    go_wp2_with fail
    go_ret
    exact ⟨by rw [E.out]; rfl, hL3.out⟩
  · have E := hidS (hE.out.trans (by rw [h1]))
    clear hE
    have hGT0 : Hid ((w.alloc (.cells #[.int .i64 t.proto, .int .i64 t.src, .int .i64 t.sport, .int .i64 t.dst, .int .i64 t.dport, .int .i64 t.kind] 52)).heap[w.heap.size]? = some (.cells #[.int .i64 t.proto, .int .i64 t.src, .int .i64 t.sport, .int .i64 t.dst, .int .i64 t.dport, .int .i64 t.kind] 52)) := by
      show _ = _
      have := heap_newG w (.cells #[.int .i64 t.proto, .int .i64 t.src, .int .i64 t.sport, .int .i64 t.dst, .int .i64 t.dport, .int .i64 t.kind] 52)
      simpa using this
    have hL0 := hidS ((Below.refl w.heap.size w).alloc (Nat.le_refl _) (.cells #[.int .i64 t.proto, .int .i64 t.src, .int .i64 t.sport, .int .i64 t.dst, .int .i64 t.dport, .int .i64 t.kind] 52))
    go_enter Try.func71, Try.ntmps71
    have cT0 := blk_cell hGT0.out 0
    have cT1 := blk_cell hGT0.out 1
    have cT2 := blk_cell hGT0.out 2
    have cT3 := blk_cell hGT0.out 3
    have cT4 := blk_cell hGT0.out 4
    have cT5 := blk_cell hGT0.out 5
    simp at cT0 cT1 cT2 cT3 cT4 cT5
    go_wp2_with fail
    refine (HC.out _ _ hL0.out).mono ?_
    rintro _ w1 ⟨rfl, hb1⟩
    have hL1 := hidS (hL0.out.trans (hb1.mono hL0.out.size))
    have hGT1 := hidS (blk_later hGT0.out hb1)
    clear hb1 hL0 hGT0 cT0 cT1 cT2 cT3 cT4 cT5
    rw [h1]
    go_wp2_with fail
    go_ret
    exact ⟨by rw [E.out]; rfl, hL1.out⟩
theorem isUsed_any (a : Option Addr) (cap : Nat) (l : List Tp) (t : Tp) (w : World) (hR : RowZ a (flatTuple l) w) (hz : l.length ≤ 1048576) (ht : rightT t = true) :
    Calls Try.prog 71 #[.slice a l.length cap, .agg #[.int .i64 t.proto, .int .i64 t.src, .int .i64 t.sport, .int .i64 t.dst, .int .i64 t.dport, .int .i64 t.kind]] w fun e w' => e = .returned (.bool (usedB l t)) ∧ Below w.heap.size w w' := by
  have := isUsed_gen a cap l t w hR hz
  rwa [usedA_right ht] at this
end Go.Proofs.Ytilajoafppplcaa
