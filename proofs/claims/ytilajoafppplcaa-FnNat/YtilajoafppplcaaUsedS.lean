/- Proved here: spec.l08Used tells whether a right tuple or its other way is one of some; all old memory stays (conditions: they can be read; at most 2^20). -/
import Derived.Test.YtilajoafppplcaaAll17
import Derived.Test.YtilajoafppplcaaAll14
import Derived.Test.YtilajoafppplcaaAll20
import Derived.Test.YtilajoafppplcaaAll18
import Derived.Deep.Cut
namespace Go.Proofs.Ytilajoafppplcaa
open Go.ChangeShapes Go.WideShapes Go.ChangeAt Go.RowKit
set_option linter.unusedVariables false
set_option linter.unusedSimpArgs false
set_option maxRecDepth 100000

set_option maxHeartbeats 4000000 in
theorem l08Used_any (a : Option Addr) (cap : Nat) (l : List Tp) (t : Tp) (w : World) (hR : RowZ a (flatTuple l) w) (hz : l.length ≤ 1048576) (ht : rightT t = true) :
    Calls Try.prog 114 #[.agg #[.int .i64 t.proto, .int .i64 t.src, .int .i64 t.sport, .int .i64 t.dst, .int .i64 t.dport, .int .i64 t.kind], .slice a l.length cap] w fun e w' => e = .returned (.bool (usedB l t)) ∧ Below w.heap.size w w' := by
  have HR := hidS hR
  have HV := hidS (fun W => l04Invert_any t W ht)
  have hE : Hid (usedB l t = (hasT l t || hasT l (invT t))) := rfl
  clear hR ht
  obtain ⟨tv, hv⟩ : ∃ x, invT t = x := ⟨_, rfl⟩
  rw [hv] at HV hE
  clear hv
  have hGT0 : Hid ((w.alloc (.cells #[.int .i64 t.proto, .int .i64 t.src, .int .i64 t.sport, .int .i64 t.dst, .int .i64 t.dport, .int .i64 t.kind] 52)).heap[w.heap.size]? = some (.cells #[.int .i64 t.proto, .int .i64 t.src, .int .i64 t.sport, .int .i64 t.dst, .int .i64 t.dport, .int .i64 t.kind] 52)) := by
    show _ = _
    have := heap_newG w (.cells #[.int .i64 t.proto, .int .i64 t.src, .int .i64 t.sport, .int .i64 t.dst, .int .i64 t.dport, .int .i64 t.kind] 52)
    simpa using this
  have hL0 := hidS ((Below.refl w.heap.size w).alloc (Nat.le_refl _) (.cells #[.int .i64 t.proto, .int .i64 t.src, .int .i64 t.sport, .int .i64 t.dst, .int .i64 t.dport, .int .i64 t.kind] 52))
  go_enter Try.func114, Try.ntmps114
  have cT0 := blk_cell hGT0.out 0
  have cT1 := blk_cell hGT0.out 1
  have cT2 := blk_cell hGT0.out 2
  have cT3 := blk_cell hGT0.out 3
  have cT4 := blk_cell hGT0.out 4
  have cT5 := blk_cell hGT0.out 5
  simp at cT0 cT1 cT2 cT3 cT4 cT5
  go_wp2_with fail
  refine (HV.out _).mono ?_
  rintro _ w1 ⟨rfl, hb1⟩
  clear cT0 cT1 cT2 cT3 cT4 cT5
  have hGT1 := hidS (blk_later hGT0.out hb1)
  have hL1 := hidS (hL0.out.trans (hb1.mono hL0.out.size))
  clear hb1 hL0 hGT0
  go_upto_region 2 with fail
  have hGV2 := hidS (heap_newG w1 (.cells #[.int .i64 tv.proto, .int .i64 tv.src, .int .i64 tv.sport, .int .i64 tv.dst, .int .i64 tv.dport, .int .i64 tv.kind] 52))
  have nV := blk_lt hGT1.out
  have hGT2 := hidS (blk_alloc hGT1.out (.cells #[.int .i64 tv.proto, .int .i64 tv.src, .int .i64 tv.sport, .int .i64 tv.dst, .int .i64 tv.dport, .int .i64 tv.kind] 52))
  have hL2 := hidS (hL1.out.alloc hL1.out.size (.cells #[.int .i64 tv.proto, .int .i64 tv.src, .int .i64 tv.sport, .int .i64 tv.dst, .int .i64 tv.dport, .int .i64 tv.kind] 52))
  clear hL1 hGT1
  generalize w1.alloc (.cells #[.int .i64 tv.proto, .int .i64 tv.src, .int .i64 tv.sport, .int .i64 tv.dst, .int .i64 tv.dport, .int .i64 tv.kind] 52) = w2 at hGT2 hGV2 hL2 ⊢
  go_wp2_with fail
  obtain ⟨vb, hvb⟩ : ∃ x, w1.heap.size = x := ⟨_, rfl⟩
  skip
  skip
  go_loopw [6] (fun i wr => ∃ k : Nat, i = .int .i64 (k : Int) ∧ k ≤ l.length ∧ Hid (hasT (l.take k) t = false ∧ hasT (l.take k) tv = false) ∧ Hid (wr.heap[w.heap.size]? = some (.cells #[.int .i64 t.proto, .int .i64 t.src, .int .i64 t.sport, .int .i64 t.dst, .int .i64 t.dport, .int .i64 t.kind] 52)) ∧ Hid (wr.heap[w1.heap.size]? = some (.cells #[.int .i64 tv.proto, .int .i64 tv.src, .int .i64 tv.sport, .int .i64 tv.dst, .int .i64 tv.dport, .int .i64 tv.kind] 52)) ∧ Below w.heap.size w wr) (fun i _ => (l.length - (intOf i).toNat))
  case atStart => exact ⟨0, rfl, Nat.zero_le _, ⟨rfl, rfl⟩, hGT2, hGV2, hL2.out⟩
  case round =>
    clear hGT2 hGV2 hL2
    obtain ⟨k, rfl, hk, hF, hGT5, hGV5, hb5⟩ := hrel
    obtain ⟨w5, hwr⟩ : ∃ x, x = wr := ⟨_, rfl⟩
    subst hwr
    have hL5 := hidS hb5
    clear hb5
    by_cases hlt : k < l.length
    · skip
      have hlt' : (0 : Int) ≤ (k : Int) ∧ (k : Int) < (l.length : Int) := by omega
      have hlt2 := hlt'.2
      obtain ⟨b, o, rfl, hbl, c0, c1, c2, c3, c4, c5⟩ := (HR.out.later hL5.out).tuple hlt
      have HH1 := hidS (fun q => hasT_here (t := t) hlt q)
      have HH2 := hidS (fun q => hasT_here (t := tv) hlt q)
      have HT1 := hidS (hasT_take (t := t) hlt)
      have HT2 := hidS (hasT_take (t := tv) hlt)
      generalize l.getD k zeroTp = s at *
      obtain ⟨hb1, h41⟩ : ∃ x, sameT t s = x := ⟨_, rfl⟩
      obtain ⟨hb2, h42⟩ : ∃ x, sameT tv s = x := ⟨_, rfl⟩
      have q1 : Hid (∀ W, (binOp .eql 52 (.agg #[.int .i64 s.proto, .int .i64 s.src, .int .i64 s.sport, .int .i64 s.dst, .int .i64 s.dport, .int .i64 s.kind]) (.agg #[.int .i64 t.proto, .int .i64 t.src, .int .i64 t.sport, .int .i64 t.dst, .int .i64 t.dport, .int .i64 t.kind])).run Try.prog W = .ok (.bool hb1) W) := hidS (fun W => by rw [eql_tup, sameT_comm, h41])
      have q2 : Hid (∀ W, (binOp .eql 52 (.agg #[.int .i64 s.proto, .int .i64 s.src, .int .i64 s.sport, .int .i64 s.dst, .int .i64 s.dport, .int .i64 s.kind]) (.agg #[.int .i64 tv.proto, .int .i64 tv.src, .int .i64 tv.sport, .int .i64 tv.dst, .int .i64 tv.dport, .int .i64 tv.kind])).run Try.prog W = .ok (.bool hb2) W) := hidS (fun W => by rw [eql_tup, sameT_comm, h42])
      have H41 := hidS h41
      have H42 := hidS h42
      clear h41 h42
      go_wp2_with fail
      cases hb1
      · cases hb2
        · refine grow_guarded 14 [.is (.slice (some ⟨b, o, none⟩) l.length cap), .is (.int .i64 (k : Int)), .is (.pointer (some ⟨b, o + k * 6, none⟩)), .is (.agg #[.int .i64 s.proto, .int .i64 s.src, .int .i64 s.sport, .int .i64 s.dst, .int .i64 s.dport, .int .i64 s.kind]), .is (.agg #[.int .i64 t.proto, .int .i64 t.src, .int .i64 t.sport, .int .i64 t.dst, .int .i64 t.dport, .int .i64 t.kind]), .is (.bool false), .is (.bool false), .is (.slice (some ⟨b, o, none⟩) l.length cap), .is (.int .i64 (k : Int)), .is (.pointer (some ⟨b, o + k * 6, none⟩)), .is (.agg #[.int .i64 s.proto, .int .i64 s.src, .int .i64 s.sport, .int .i64 s.dst, .int .i64 s.dport, .int .i64 s.kind]), .is (.agg #[.int .i64 tv.proto, .int .i64 tv.src, .int .i64 tv.sport, .int .i64 tv.dst, .int .i64 tv.dport, .int .i64 tv.kind]), .is (.bool false), .is (.bool false)] rfl (by kernel_rfl) (by kernel_rfl) ?stepsA ?finA
          case stepsA =>
            refine ⟨?_, ?_, ?_, ?_, ?_, ?_, ?_, ?_, ?_, ?_, ?_, ?_, ?_, ?_, trivial⟩
            · refine stepW_of_u ⟨rfl, fun v W ρ hC kc kf ks ki kd => ?_⟩
              have t1 : ρ (.tmp 1) = .slice (some ⟨b, o, none⟩) l.length cap := ki 1 (by decide)
              simp [execOp, go_sem, kc, t1]
              exact ⟨hC, Below.refl _ _, rfl⟩
            · refine stepW_of_u ⟨rfl, fun v W ρ hC kc kf ks ki kd => ?_⟩
              have t6 : ρ (.tmp 6) = .int .i64 (k : Int) := ki 6 (by decide)
              simp [execOp, go_sem, kc, t6]
              exact ⟨hC, Below.refl _ _, rfl⟩
            · refine stepW_of_u ⟨rfl, fun v W ρ hC kc kf ks ki kd => ?_⟩
              have d0 : v 0 = .slice (some ⟨b, o, none⟩) l.length cap := (kdj kd 0 rfl :)
              have t15 : ρ (.tmp 15) = .slice (some ⟨b, o, none⟩) l.length cap := (ks 0 15 (by decide) rfl).trans d0
              have d1 : v 1 = .int .i64 (k : Int) := (kdj kd 1 rfl :)
              have t16 : ρ (.tmp 16) = .int .i64 (k : Int) := (ks 1 16 (by decide) rfl).trans d1
              simp [execOp, go_sem, kc, t15, t16, hlt']
              exact ⟨hC, Below.refl _ _, rfl⟩
            · refine stepW_of_u ⟨rfl, fun v W ρ hC kc kf ks ki kd => ?_⟩
              have d2 : v 2 = .pointer (some ⟨b, o + k * 6, none⟩) := (kdj kd 2 rfl :)
              have t17 : ρ (.tmp 17) = .pointer (some ⟨b, o + k * 6, none⟩) := (ks 2 17 (by decide) rfl).trans d2
              have e0 := (hC.cell (p := ⟨b, o + k * 6, none⟩) hbl).trans c0
              have e1 := (hC.cell (p := ⟨b, o + k * 6 + 1, none⟩) hbl).trans c1
              have e2 := (hC.cell (p := ⟨b, o + k * 6 + 2, none⟩) hbl).trans c2
              have e3 := (hC.cell (p := ⟨b, o + k * 6 + 3, none⟩) hbl).trans c3
              have e4 := (hC.cell (p := ⟨b, o + k * 6 + 4, none⟩) hbl).trans c4
              have e5 := (hC.cell (p := ⟨b, o + k * 6 + 5, none⟩) hbl).trans c5
              simp [execOp, go_sem, kc, t17, e0, e1, e2, e3, e4, e5]
              exact ⟨hC, Below.refl _ _, rfl⟩
            · refine stepW_of_u ⟨rfl, fun v W ρ hC kc kf ks ki kd => ?_⟩
              have t2 : ρ (.tmp 2) = .pointer (some ⟨w.heap.size, 0, none⟩) := ki 2 (by decide)
              have hg := blk_later hGT5.out hC
              have c0 := blk_cell hg 0
              have c1 := blk_cell hg 1
              have c2 := blk_cell hg 2
              have c3 := blk_cell hg 3
              have c4 := blk_cell hg 4
              have c5 := blk_cell hg 5
              simp at c0 c1 c2 c3 c4 c5
              simp [execOp, go_sem, kc, t2, c0, c1, c2, c3, c4, c5]
              exact ⟨hC, Below.refl _ _, rfl⟩
            · refine stepW_of_u ⟨rfl, fun v W ρ hC kc kf ks ki kd => ?_⟩
              have d3 : v 3 = .agg #[.int .i64 s.proto, .int .i64 s.src, .int .i64 s.sport, .int .i64 s.dst, .int .i64 s.dport, .int .i64 s.kind] := (kdj kd 3 rfl :)
              have t18 : ρ (.tmp 18) = .agg #[.int .i64 s.proto, .int .i64 s.src, .int .i64 s.sport, .int .i64 s.dst, .int .i64 s.dport, .int .i64 s.kind] := (ks 3 18 (by decide) rfl).trans d3
              have d4 : v 4 = .agg #[.int .i64 t.proto, .int .i64 t.src, .int .i64 t.sport, .int .i64 t.dst, .int .i64 t.dport, .int .i64 t.kind] := (kdj kd 4 rfl :)
              have t19 : ρ (.tmp 19) = .agg #[.int .i64 t.proto, .int .i64 t.src, .int .i64 t.sport, .int .i64 t.dst, .int .i64 t.dport, .int .i64 t.kind] := (ks 4 19 (by decide) rfl).trans d4
              have eg : Try.prog.eqGuardType Try.prog.depth 52 = false := by kernel_rfl
              have e1 := q1.out W
              simp only [execOp, t18, t19, Sem.run_bind, run_eqGuard_agg, eg, e1, Result.andThen_ok, Sem.run_pure]
              exact ⟨hC, Below.refl _ _, rfl⟩
            · refine stepW_of_u ⟨rfl, fun v W ρ hC kc kf ks ki kd => ?_⟩
              have d5 : v 5 = .bool false := (kdj kd 5 rfl :)
              have t20 : ρ (.tmp 20) = .bool false := (ks 5 20 (by decide) rfl).trans d5
              simp [execOp, go_sem, kc, t20]
              exact ⟨hC, Below.refl _ _, rfl⟩
            · intro v W ρ y hC kc kf ks ki ky ku kd
              have dg : v 6 = .bool false := (kdj kd 6 rfl :)
              have hy := ky 6 21 false (by decide) rfl dg
              rw [if_pos (by simp [Region.wanted, hy])]
              have t1 : ρ (.tmp 1) = .slice (some ⟨b, o, none⟩) l.length cap := ki 1 (by decide)
              simp [execOp, go_sem, kc, t1]
              exact ⟨hC, Below.refl _ _, rfl⟩
            · intro v W ρ y hC kc kf ks ki ky ku kd
              have dg : v 6 = .bool false := (kdj kd 6 rfl :)
              have hy := ky 6 21 false (by decide) rfl dg
              rw [if_pos (by simp [Region.wanted, hy])]
              have t6 : ρ (.tmp 6) = .int .i64 (k : Int) := ki 6 (by decide)
              simp [execOp, go_sem, kc, t6]
              exact ⟨hC, Below.refl _ _, rfl⟩
            · intro v W ρ y hC kc kf ks ki ky ku kd
              have dg : v 6 = .bool false := (kdj kd 6 rfl :)
              have hy := ky 6 21 false (by decide) rfl dg
              rw [if_pos (by simp [Region.wanted, hy])]
              have d7 : v 7 = .slice (some ⟨b, o, none⟩) l.length cap := (kdj kd 7 rfl :)
              have t22 : ρ (.tmp 22) = .slice (some ⟨b, o, none⟩) l.length cap := (ks 7 22 (by decide) rfl).trans d7
              have d8 : v 8 = .int .i64 (k : Int) := (kdj kd 8 rfl :)
              have t23 : ρ (.tmp 23) = .int .i64 (k : Int) := (ks 8 23 (by decide) rfl).trans d8
              simp [execOp, go_sem, kc, t22, t23, hlt']
              exact ⟨hC, Below.refl _ _, rfl⟩
            · intro v W ρ y hC kc kf ks ki ky ku kd
              have dg : v 6 = .bool false := (kdj kd 6 rfl :)
              have hy := ky 6 21 false (by decide) rfl dg
              rw [if_pos (by simp [Region.wanted, hy])]
              have d9 : v 9 = .pointer (some ⟨b, o + k * 6, none⟩) := (kdj kd 9 rfl :)
              have t24 : ρ (.tmp 24) = .pointer (some ⟨b, o + k * 6, none⟩) := (ks 9 24 (by decide) rfl).trans d9
              have e0 := (hC.cell (p := ⟨b, o + k * 6, none⟩) hbl).trans c0
              have e1 := (hC.cell (p := ⟨b, o + k * 6 + 1, none⟩) hbl).trans c1
              have e2 := (hC.cell (p := ⟨b, o + k * 6 + 2, none⟩) hbl).trans c2
              have e3 := (hC.cell (p := ⟨b, o + k * 6 + 3, none⟩) hbl).trans c3
              have e4 := (hC.cell (p := ⟨b, o + k * 6 + 4, none⟩) hbl).trans c4
              have e5 := (hC.cell (p := ⟨b, o + k * 6 + 5, none⟩) hbl).trans c5
              simp [execOp, go_sem, kc, t24, e0, e1, e2, e3, e4, e5]
              exact ⟨hC, Below.refl _ _, rfl⟩
            · intro v W ρ y hC kc kf ks ki ky ku kd
              have dg : v 6 = .bool false := (kdj kd 6 rfl :)
              have hy := ky 6 21 false (by decide) rfl dg
              rw [if_pos (by simp [Region.wanted, hy])]
              have t5 : ρ (.tmp 5) = .pointer (some ⟨w1.heap.size, 0, none⟩) := ki 5 (by decide)
              have hg := blk_later hGV5.out hC
              have c0 := blk_cell hg 0
              have c1 := blk_cell hg 1
              have c2 := blk_cell hg 2
              have c3 := blk_cell hg 3
              have c4 := blk_cell hg 4
              have c5 := blk_cell hg 5
              simp at c0 c1 c2 c3 c4 c5
              simp [execOp, go_sem, kc, t5, c0, c1, c2, c3, c4, c5]
              exact ⟨hC, Below.refl _ _, rfl⟩
            · intro v W ρ y hC kc kf ks ki ky ku kd
              have dg : v 6 = .bool false := (kdj kd 6 rfl :)
              have hy := ky 6 21 false (by decide) rfl dg
              rw [if_pos (by simp [Region.wanted, hy])]
              have d10 : v 10 = .agg #[.int .i64 s.proto, .int .i64 s.src, .int .i64 s.sport, .int .i64 s.dst, .int .i64 s.dport, .int .i64 s.kind] := (kdj kd 10 rfl :)
              have t25 : ρ (.tmp 25) = .agg #[.int .i64 s.proto, .int .i64 s.src, .int .i64 s.sport, .int .i64 s.dst, .int .i64 s.dport, .int .i64 s.kind] := (ks 10 25 (by decide) rfl).trans d10
              have d11 : v 11 = .agg #[.int .i64 tv.proto, .int .i64 tv.src, .int .i64 tv.sport, .int .i64 tv.dst, .int .i64 tv.dport, .int .i64 tv.kind] := (kdj kd 11 rfl :)
              have t26 : ρ (.tmp 26) = .agg #[.int .i64 tv.proto, .int .i64 tv.src, .int .i64 tv.sport, .int .i64 tv.dst, .int .i64 tv.dport, .int .i64 tv.kind] := (ks 11 26 (by decide) rfl).trans d11
              have eg : Try.prog.eqGuardType Try.prog.depth 52 = false := by kernel_rfl
              have e1 := q2.out W
              simp only [execOp, t25, t26, Sem.run_bind, run_eqGuard_agg, eg, e1, Result.andThen_ok, Sem.run_pure]
              exact ⟨hC, Below.refl _ _, rfl⟩
            · refine stepW_of_u ⟨rfl, fun v W ρ hC kc kf ks ki kd => ?_⟩
              have d6 : v 6 = .bool false := (kdj kd 6 rfl :)
              have t21 : ρ (.tmp 21) = .bool false := (ks 6 21 (by decide) rfl).trans d6
              have d12 : v 12 = .bool false := (kdj kd 12 rfl :)
              have t27 : ρ (.tmp 27) = .bool false := (ks 12 27 (by decide) rfl).trans d12
              simp [execOp, go_sem, kc, t21, t27]
              exact ⟨hC, Below.refl _ _, rfl⟩
          intro vA w6 hbA hall
          have hvA : vA 13 = .bool false := hall 13 (by decide)
          simp [upto, Act.put]
          rw [hvA]
          clear hall hvA
          have hGT6 := hidS (blk_later hGT5.out hbA)
          have hGV6 := hidS (blk_later hGV5.out hbA)
          have hL6 := hidS (hL5.out.trans (hbA.mono hL5.out.size))
          clear hbA hGT5 hGV5 hL5 c0 c1 c2 c3 c4 c5
          have HN : Hid (hasT (l.take (k + 1)) t = false ∧ hasT (l.take (k + 1)) tv = false) := ⟨HT1.out.trans (by rw [hF.out.1, H41.out]; rfl), HT2.out.trans (by rw [hF.out.2, H42.out]; rfl)⟩
          clear HT1 HT2 HH1 HH2 hF q1 q2 H41 H42
          go_wp2_with fail
          go_roundw
          case rel => exact ⟨k + 1, by simp, by omega, HN, hGT6, hGV6, hL6.out⟩
          case measure => simp [intOf]; omega
        · refine grow_guarded 14 [.is (.slice (some ⟨b, o, none⟩) l.length cap), .is (.int .i64 (k : Int)), .is (.pointer (some ⟨b, o + k * 6, none⟩)), .is (.agg #[.int .i64 s.proto, .int .i64 s.src, .int .i64 s.sport, .int .i64 s.dst, .int .i64 s.dport, .int .i64 s.kind]), .is (.agg #[.int .i64 t.proto, .int .i64 t.src, .int .i64 t.sport, .int .i64 t.dst, .int .i64 t.dport, .int .i64 t.kind]), .is (.bool false), .is (.bool false), .is (.slice (some ⟨b, o, none⟩) l.length cap), .is (.int .i64 (k : Int)), .is (.pointer (some ⟨b, o + k * 6, none⟩)), .is (.agg #[.int .i64 s.proto, .int .i64 s.src, .int .i64 s.sport, .int .i64 s.dst, .int .i64 s.dport, .int .i64 s.kind]), .is (.agg #[.int .i64 tv.proto, .int .i64 tv.src, .int .i64 tv.sport, .int .i64 tv.dst, .int .i64 tv.dport, .int .i64 tv.kind]), .is (.bool true), .is (.bool true)] rfl (by kernel_rfl) (by kernel_rfl) ?stepsB ?finB
          case stepsB =>
            refine ⟨?_, ?_, ?_, ?_, ?_, ?_, ?_, ?_, ?_, ?_, ?_, ?_, ?_, ?_, trivial⟩
            · refine stepW_of_u ⟨rfl, fun v W ρ hC kc kf ks ki kd => ?_⟩
              have t1 : ρ (.tmp 1) = .slice (some ⟨b, o, none⟩) l.length cap := ki 1 (by decide)
              simp [execOp, go_sem, kc, t1]
              exact ⟨hC, Below.refl _ _, rfl⟩
            · refine stepW_of_u ⟨rfl, fun v W ρ hC kc kf ks ki kd => ?_⟩
              have t6 : ρ (.tmp 6) = .int .i64 (k : Int) := ki 6 (by decide)
              simp [execOp, go_sem, kc, t6]
              exact ⟨hC, Below.refl _ _, rfl⟩
            · refine stepW_of_u ⟨rfl, fun v W ρ hC kc kf ks ki kd => ?_⟩
              have d0 : v 0 = .slice (some ⟨b, o, none⟩) l.length cap := (kdj kd 0 rfl :)
              have t15 : ρ (.tmp 15) = .slice (some ⟨b, o, none⟩) l.length cap := (ks 0 15 (by decide) rfl).trans d0
              have d1 : v 1 = .int .i64 (k : Int) := (kdj kd 1 rfl :)
              have t16 : ρ (.tmp 16) = .int .i64 (k : Int) := (ks 1 16 (by decide) rfl).trans d1
              simp [execOp, go_sem, kc, t15, t16, hlt']
              exact ⟨hC, Below.refl _ _, rfl⟩
            · refine stepW_of_u ⟨rfl, fun v W ρ hC kc kf ks ki kd => ?_⟩
              have d2 : v 2 = .pointer (some ⟨b, o + k * 6, none⟩) := (kdj kd 2 rfl :)
              have t17 : ρ (.tmp 17) = .pointer (some ⟨b, o + k * 6, none⟩) := (ks 2 17 (by decide) rfl).trans d2
              have e0 := (hC.cell (p := ⟨b, o + k * 6, none⟩) hbl).trans c0
              have e1 := (hC.cell (p := ⟨b, o + k * 6 + 1, none⟩) hbl).trans c1
              have e2 := (hC.cell (p := ⟨b, o + k * 6 + 2, none⟩) hbl).trans c2
              have e3 := (hC.cell (p := ⟨b, o + k * 6 + 3, none⟩) hbl).trans c3
              have e4 := (hC.cell (p := ⟨b, o + k * 6 + 4, none⟩) hbl).trans c4
              have e5 := (hC.cell (p := ⟨b, o + k * 6 + 5, none⟩) hbl).trans c5
              simp [execOp, go_sem, kc, t17, e0, e1, e2, e3, e4, e5]
              exact ⟨hC, Below.refl _ _, rfl⟩
            · refine stepW_of_u ⟨rfl, fun v W ρ hC kc kf ks ki kd => ?_⟩
              have t2 : ρ (.tmp 2) = .pointer (some ⟨w.heap.size, 0, none⟩) := ki 2 (by decide)
              have hg := blk_later hGT5.out hC
              have c0 := blk_cell hg 0
              have c1 := blk_cell hg 1
              have c2 := blk_cell hg 2
              have c3 := blk_cell hg 3
              have c4 := blk_cell hg 4
              have c5 := blk_cell hg 5
              simp at c0 c1 c2 c3 c4 c5
              simp [execOp, go_sem, kc, t2, c0, c1, c2, c3, c4, c5]
              exact ⟨hC, Below.refl _ _, rfl⟩
            · refine stepW_of_u ⟨rfl, fun v W ρ hC kc kf ks ki kd => ?_⟩
              have d3 : v 3 = .agg #[.int .i64 s.proto, .int .i64 s.src, .int .i64 s.sport, .int .i64 s.dst, .int .i64 s.dport, .int .i64 s.kind] := (kdj kd 3 rfl :)
              have t18 : ρ (.tmp 18) = .agg #[.int .i64 s.proto, .int .i64 s.src, .int .i64 s.sport, .int .i64 s.dst, .int .i64 s.dport, .int .i64 s.kind] := (ks 3 18 (by decide) rfl).trans d3
              have d4 : v 4 = .agg #[.int .i64 t.proto, .int .i64 t.src, .int .i64 t.sport, .int .i64 t.dst, .int .i64 t.dport, .int .i64 t.kind] := (kdj kd 4 rfl :)
              have t19 : ρ (.tmp 19) = .agg #[.int .i64 t.proto, .int .i64 t.src, .int .i64 t.sport, .int .i64 t.dst, .int .i64 t.dport, .int .i64 t.kind] := (ks 4 19 (by decide) rfl).trans d4
              have eg : Try.prog.eqGuardType Try.prog.depth 52 = false := by kernel_rfl
              have e1 := q1.out W
              simp only [execOp, t18, t19, Sem.run_bind, run_eqGuard_agg, eg, e1, Result.andThen_ok, Sem.run_pure]
              exact ⟨hC, Below.refl _ _, rfl⟩
            · refine stepW_of_u ⟨rfl, fun v W ρ hC kc kf ks ki kd => ?_⟩
              have d5 : v 5 = .bool false := (kdj kd 5 rfl :)
              have t20 : ρ (.tmp 20) = .bool false := (ks 5 20 (by decide) rfl).trans d5
              simp [execOp, go_sem, kc, t20]
              exact ⟨hC, Below.refl _ _, rfl⟩
            · intro v W ρ y hC kc kf ks ki ky ku kd
              have dg : v 6 = .bool false := (kdj kd 6 rfl :)
              have hy := ky 6 21 false (by decide) rfl dg
              rw [if_pos (by simp [Region.wanted, hy])]
              have t1 : ρ (.tmp 1) = .slice (some ⟨b, o, none⟩) l.length cap := ki 1 (by decide)
              simp [execOp, go_sem, kc, t1]
              exact ⟨hC, Below.refl _ _, rfl⟩
            · intro v W ρ y hC kc kf ks ki ky ku kd
              have dg : v 6 = .bool false := (kdj kd 6 rfl :)
              have hy := ky 6 21 false (by decide) rfl dg
              rw [if_pos (by simp [Region.wanted, hy])]
              have t6 : ρ (.tmp 6) = .int .i64 (k : Int) := ki 6 (by decide)
              simp [execOp, go_sem, kc, t6]
              exact ⟨hC, Below.refl _ _, rfl⟩
            · intro v W ρ y hC kc kf ks ki ky ku kd
              have dg : v 6 = .bool false := (kdj kd 6 rfl :)
              have hy := ky 6 21 false (by decide) rfl dg
              rw [if_pos (by simp [Region.wanted, hy])]
              have d7 : v 7 = .slice (some ⟨b, o, none⟩) l.length cap := (kdj kd 7 rfl :)
              have t22 : ρ (.tmp 22) = .slice (some ⟨b, o, none⟩) l.length cap := (ks 7 22 (by decide) rfl).trans d7
              have d8 : v 8 = .int .i64 (k : Int) := (kdj kd 8 rfl :)
              have t23 : ρ (.tmp 23) = .int .i64 (k : Int) := (ks 8 23 (by decide) rfl).trans d8
              simp [execOp, go_sem, kc, t22, t23, hlt']
              exact ⟨hC, Below.refl _ _, rfl⟩
            · intro v W ρ y hC kc kf ks ki ky ku kd
              have dg : v 6 = .bool false := (kdj kd 6 rfl :)
              have hy := ky 6 21 false (by decide) rfl dg
              rw [if_pos (by simp [Region.wanted, hy])]
              have d9 : v 9 = .pointer (some ⟨b, o + k * 6, none⟩) := (kdj kd 9 rfl :)
              have t24 : ρ (.tmp 24) = .pointer (some ⟨b, o + k * 6, none⟩) := (ks 9 24 (by decide) rfl).trans d9
              have e0 := (hC.cell (p := ⟨b, o + k * 6, none⟩) hbl).trans c0
              have e1 := (hC.cell (p := ⟨b, o + k * 6 + 1, none⟩) hbl).trans c1
              have e2 := (hC.cell (p := ⟨b, o + k * 6 + 2, none⟩) hbl).trans c2
              have e3 := (hC.cell (p := ⟨b, o + k * 6 + 3, none⟩) hbl).trans c3
              have e4 := (hC.cell (p := ⟨b, o + k * 6 + 4, none⟩) hbl).trans c4
              have e5 := (hC.cell (p := ⟨b, o + k * 6 + 5, none⟩) hbl).trans c5
              simp [execOp, go_sem, kc, t24, e0, e1, e2, e3, e4, e5]
              exact ⟨hC, Below.refl _ _, rfl⟩
            · intro v W ρ y hC kc kf ks ki ky ku kd
              have dg : v 6 = .bool false := (kdj kd 6 rfl :)
              have hy := ky 6 21 false (by decide) rfl dg
              rw [if_pos (by simp [Region.wanted, hy])]
              have t5 : ρ (.tmp 5) = .pointer (some ⟨w1.heap.size, 0, none⟩) := ki 5 (by decide)
              have hg := blk_later hGV5.out hC
              have c0 := blk_cell hg 0
              have c1 := blk_cell hg 1
              have c2 := blk_cell hg 2
              have c3 := blk_cell hg 3
              have c4 := blk_cell hg 4
              have c5 := blk_cell hg 5
              simp at c0 c1 c2 c3 c4 c5
              simp [execOp, go_sem, kc, t5, c0, c1, c2, c3, c4, c5]
              exact ⟨hC, Below.refl _ _, rfl⟩
            · intro v W ρ y hC kc kf ks ki ky ku kd
              have dg : v 6 = .bool false := (kdj kd 6 rfl :)
              have hy := ky 6 21 false (by decide) rfl dg
              rw [if_pos (by simp [Region.wanted, hy])]
              have d10 : v 10 = .agg #[.int .i64 s.proto, .int .i64 s.src, .int .i64 s.sport, .int .i64 s.dst, .int .i64 s.dport, .int .i64 s.kind] := (kdj kd 10 rfl :)
              have t25 : ρ (.tmp 25) = .agg #[.int .i64 s.proto, .int .i64 s.src, .int .i64 s.sport, .int .i64 s.dst, .int .i64 s.dport, .int .i64 s.kind] := (ks 10 25 (by decide) rfl).trans d10
              have d11 : v 11 = .agg #[.int .i64 tv.proto, .int .i64 tv.src, .int .i64 tv.sport, .int .i64 tv.dst, .int .i64 tv.dport, .int .i64 tv.kind] := (kdj kd 11 rfl :)
              have t26 : ρ (.tmp 26) = .agg #[.int .i64 tv.proto, .int .i64 tv.src, .int .i64 tv.sport, .int .i64 tv.dst, .int .i64 tv.dport, .int .i64 tv.kind] := (ks 11 26 (by decide) rfl).trans d11
              have eg : Try.prog.eqGuardType Try.prog.depth 52 = false := by kernel_rfl
              have e1 := q2.out W
              simp only [execOp, t25, t26, Sem.run_bind, run_eqGuard_agg, eg, e1, Result.andThen_ok, Sem.run_pure]
              exact ⟨hC, Below.refl _ _, rfl⟩
            · refine stepW_of_u ⟨rfl, fun v W ρ hC kc kf ks ki kd => ?_⟩
              have d6 : v 6 = .bool false := (kdj kd 6 rfl :)
              have t21 : ρ (.tmp 21) = .bool false := (ks 6 21 (by decide) rfl).trans d6
              have d12 : v 12 = .bool true := (kdj kd 12 rfl :)
              have t27 : ρ (.tmp 27) = .bool true := (ks 12 27 (by decide) rfl).trans d12
              simp [execOp, go_sem, kc, t21, t27]
              exact ⟨hC, Below.refl _ _, rfl⟩
          intro vB w6 hbA hall
          have hvB : vB 13 = .bool true := hall 13 (by decide)
          simp [upto, Act.put]
          rw [hvB]
          clear hall hvB
          have hGT6 := hidS (blk_later hGT5.out hbA)
          have hGV6 := hidS (blk_later hGV5.out hbA)
          have hL6 := hidS (hL5.out.trans (hbA.mono hL5.out.size))
          clear hbA hGT5 hGV5 hL5 c0 c1 c2 c3 c4 c5
          have E : Hid (usedB l t = true) := hE.out.trans (by rw [HH2.out H42.out]; simp)
          clear HT1 HT2 HH1 HH2 hF q1 q2 H41 H42 hE
          go_wp2_with fail
          go_ret
          exact ⟨by rw [E.out]; rfl, hL6.out⟩
      · refine grow_guarded 14 [.is (.slice (some ⟨b, o, none⟩) l.length cap), .is (.int .i64 (k : Int)), .is (.pointer (some ⟨b, o + k * 6, none⟩)), .is (.agg #[.int .i64 s.proto, .int .i64 s.src, .int .i64 s.sport, .int .i64 s.dst, .int .i64 s.dport, .int .i64 s.kind]), .is (.agg #[.int .i64 t.proto, .int .i64 t.src, .int .i64 t.sport, .int .i64 t.dst, .int .i64 t.dport, .int .i64 t.kind]), .is (.bool true), .is (.bool true), .is (undef), .is (undef), .is (undef), .is (undef), .is (undef), .is (undef), .is (.bool true)] rfl (by kernel_rfl) (by kernel_rfl) ?stepsC ?finC
        case stepsC =>
          refine ⟨?_, ?_, ?_, ?_, ?_, ?_, ?_, ?_, ?_, ?_, ?_, ?_, ?_, ?_, trivial⟩
          · refine stepW_of_u ⟨rfl, fun v W ρ hC kc kf ks ki kd => ?_⟩
            have t1 : ρ (.tmp 1) = .slice (some ⟨b, o, none⟩) l.length cap := ki 1 (by decide)
            simp [execOp, go_sem, kc, t1]
            exact ⟨hC, Below.refl _ _, rfl⟩
          · refine stepW_of_u ⟨rfl, fun v W ρ hC kc kf ks ki kd => ?_⟩
            have t6 : ρ (.tmp 6) = .int .i64 (k : Int) := ki 6 (by decide)
            simp [execOp, go_sem, kc, t6]
            exact ⟨hC, Below.refl _ _, rfl⟩
          · refine stepW_of_u ⟨rfl, fun v W ρ hC kc kf ks ki kd => ?_⟩
            have d0 : v 0 = .slice (some ⟨b, o, none⟩) l.length cap := (kdj kd 0 rfl :)
            have t15 : ρ (.tmp 15) = .slice (some ⟨b, o, none⟩) l.length cap := (ks 0 15 (by decide) rfl).trans d0
            have d1 : v 1 = .int .i64 (k : Int) := (kdj kd 1 rfl :)
            have t16 : ρ (.tmp 16) = .int .i64 (k : Int) := (ks 1 16 (by decide) rfl).trans d1
            simp [execOp, go_sem, kc, t15, t16, hlt']
            exact ⟨hC, Below.refl _ _, rfl⟩
          · refine stepW_of_u ⟨rfl, fun v W ρ hC kc kf ks ki kd => ?_⟩
            have d2 : v 2 = .pointer (some ⟨b, o + k * 6, none⟩) := (kdj kd 2 rfl :)
            have t17 : ρ (.tmp 17) = .pointer (some ⟨b, o + k * 6, none⟩) := (ks 2 17 (by decide) rfl).trans d2
            have e0 := (hC.cell (p := ⟨b, o + k * 6, none⟩) hbl).trans c0
            have e1 := (hC.cell (p := ⟨b, o + k * 6 + 1, none⟩) hbl).trans c1
            have e2 := (hC.cell (p := ⟨b, o + k * 6 + 2, none⟩) hbl).trans c2
            have e3 := (hC.cell (p := ⟨b, o + k * 6 + 3, none⟩) hbl).trans c3
            have e4 := (hC.cell (p := ⟨b, o + k * 6 + 4, none⟩) hbl).trans c4
            have e5 := (hC.cell (p := ⟨b, o + k * 6 + 5, none⟩) hbl).trans c5
            simp [execOp, go_sem, kc, t17, e0, e1, e2, e3, e4, e5]
            exact ⟨hC, Below.refl _ _, rfl⟩
          · refine stepW_of_u ⟨rfl, fun v W ρ hC kc kf ks ki kd => ?_⟩
            have t2 : ρ (.tmp 2) = .pointer (some ⟨w.heap.size, 0, none⟩) := ki 2 (by decide)
            have hg := blk_later hGT5.out hC
            have c0 := blk_cell hg 0
            have c1 := blk_cell hg 1
            have c2 := blk_cell hg 2
            have c3 := blk_cell hg 3
            have c4 := blk_cell hg 4
            have c5 := blk_cell hg 5
            simp at c0 c1 c2 c3 c4 c5
            simp [execOp, go_sem, kc, t2, c0, c1, c2, c3, c4, c5]
            exact ⟨hC, Below.refl _ _, rfl⟩
          · refine stepW_of_u ⟨rfl, fun v W ρ hC kc kf ks ki kd => ?_⟩
            have d3 : v 3 = .agg #[.int .i64 s.proto, .int .i64 s.src, .int .i64 s.sport, .int .i64 s.dst, .int .i64 s.dport, .int .i64 s.kind] := (kdj kd 3 rfl :)
            have t18 : ρ (.tmp 18) = .agg #[.int .i64 s.proto, .int .i64 s.src, .int .i64 s.sport, .int .i64 s.dst, .int .i64 s.dport, .int .i64 s.kind] := (ks 3 18 (by decide) rfl).trans d3
            have d4 : v 4 = .agg #[.int .i64 t.proto, .int .i64 t.src, .int .i64 t.sport, .int .i64 t.dst, .int .i64 t.dport, .int .i64 t.kind] := (kdj kd 4 rfl :)
            have t19 : ρ (.tmp 19) = .agg #[.int .i64 t.proto, .int .i64 t.src, .int .i64 t.sport, .int .i64 t.dst, .int .i64 t.dport, .int .i64 t.kind] := (ks 4 19 (by decide) rfl).trans d4
            have eg : Try.prog.eqGuardType Try.prog.depth 52 = false := by kernel_rfl
            have e1 := q1.out W
            simp only [execOp, t18, t19, Sem.run_bind, run_eqGuard_agg, eg, e1, Result.andThen_ok, Sem.run_pure]
            exact ⟨hC, Below.refl _ _, rfl⟩
          · refine stepW_of_u ⟨rfl, fun v W ρ hC kc kf ks ki kd => ?_⟩
            have d5 : v 5 = .bool true := (kdj kd 5 rfl :)
            have t20 : ρ (.tmp 20) = .bool true := (ks 5 20 (by decide) rfl).trans d5
            simp [execOp, go_sem, kc, t20]
            exact ⟨hC, Below.refl _ _, rfl⟩
          · intro v W ρ y hC kc kf ks ki ky ku kd
            have dg : v 6 = .bool true := (kdj kd 6 rfl :)
            have hy := ky 6 21 true (by decide) rfl dg
            rw [if_neg (by simp [Region.wanted, hy])]
            exact ⟨Below.refl _ _, rfl⟩
          · intro v W ρ y hC kc kf ks ki ky ku kd
            have dg : v 6 = .bool true := (kdj kd 6 rfl :)
            have hy := ky 6 21 true (by decide) rfl dg
            rw [if_neg (by simp [Region.wanted, hy])]
            exact ⟨Below.refl _ _, rfl⟩
          · intro v W ρ y hC kc kf ks ki ky ku kd
            have dg : v 6 = .bool true := (kdj kd 6 rfl :)
            have hy := ky 6 21 true (by decide) rfl dg
            rw [if_neg (by simp [Region.wanted, hy])]
            exact ⟨Below.refl _ _, rfl⟩
          · intro v W ρ y hC kc kf ks ki ky ku kd
            have dg : v 6 = .bool true := (kdj kd 6 rfl :)
            have hy := ky 6 21 true (by decide) rfl dg
            rw [if_neg (by simp [Region.wanted, hy])]
            exact ⟨Below.refl _ _, rfl⟩
          · intro v W ρ y hC kc kf ks ki ky ku kd
            have dg : v 6 = .bool true := (kdj kd 6 rfl :)
            have hy := ky 6 21 true (by decide) rfl dg
            rw [if_neg (by simp [Region.wanted, hy])]
            exact ⟨Below.refl _ _, rfl⟩
          · intro v W ρ y hC kc kf ks ki ky ku kd
            have dg : v 6 = .bool true := (kdj kd 6 rfl :)
            have hy := ky 6 21 true (by decide) rfl dg
            rw [if_neg (by simp [Region.wanted, hy])]
            exact ⟨Below.refl _ _, rfl⟩
          · refine stepW_of_u ⟨rfl, fun v W ρ hC kc kf ks ki kd => ?_⟩
            have d6 : v 6 = .bool true := (kdj kd 6 rfl :)
            have t21 : ρ (.tmp 21) = .bool true := (ks 6 21 (by decide) rfl).trans d6
            simp [execOp, go_sem, kc, t21]
            exact ⟨hC, Below.refl _ _, rfl⟩
        intro vC w6 hbA hall
        have hvC : vC 13 = .bool true := hall 13 (by decide)
        simp [upto, Act.put]
        rw [hvC]
        clear hall hvC
        have hGT6 := hidS (blk_later hGT5.out hbA)
        have hGV6 := hidS (blk_later hGV5.out hbA)
        have hL6 := hidS (hL5.out.trans (hbA.mono hL5.out.size))
        clear hbA hGT5 hGV5 hL5 c0 c1 c2 c3 c4 c5
        have E : Hid (usedB l t = true) := hE.out.trans (by rw [HH1.out H41.out]; simp)
        clear HT1 HT2 HH1 HH2 hF q1 q2 H41 H42 hE
        go_wp2_with fail
        go_ret
        exact ⟨by rw [E.out]; rfl, hL6.out⟩
    · have hge : ¬ (k : Int) < (l.length : Int) := by omega
      have E : Hid (usedB l t = false) := hE.out.trans (by have := hF.out; rw [List.take_of_length_le (by omega)] at this; rw [this.1, this.2]; rfl)
      clear hF hlt hk hE
      go_wp2_with fail
      go_ret
      exact ⟨by rw [E.out]; rfl, hL5.out⟩
end Go.Proofs.Ytilajoafppplcaa
