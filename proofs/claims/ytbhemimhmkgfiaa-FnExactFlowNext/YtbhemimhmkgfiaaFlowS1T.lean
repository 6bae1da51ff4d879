/- Proved here: spec.l09Until, l09Ill answer as the plain functions; all old memory stays (no conditions but those that stand there). -/
import Derived.Test.YtbhemimhmkgfiaaFlowS1
import Derived.Test.YtbhemimhmkgfiaaAll20
namespace Go.Proofs.Ytbhemimhmkgfiaa
open Go.ChangeShapes Go.WideShapes Go.ChangeAt Go.RowKit
set_option linter.unusedVariables false
set_option linter.unusedSimpArgs false
set_option maxRecDepth 100000

theorem l01Min_any (a b : Int) (w : World) : Calls Try.prog 65 #[.int .i64 a, .int .i64 b] w fun e w' => e = .returned (.int .i64 (minN a b)) ∧ w' = w := by
  by_cases h : a < b
  · rw [show minN a b = a from if_pos h]
    go_enter Try.func65, Try.ntmps65
    go_wp2
    go_ret
    exact ⟨rfl, rfl⟩
  · rw [show minN a b = b from if_neg h]
    go_enter Try.func65, Try.ntmps65
    go_wp2
    go_ret
    exact ⟨rfl, rfl⟩
set_option maxHeartbeats 4000000 in
theorem specTill_any (f : Fl) (now : Int) (w : World) (h0 : 0 ≤ now ∧ now ≤ 1000000) (hl : -1 ≤ lifeZ f.state ∧ lifeZ f.state ≤ 500) :
    Calls Try.prog 47 #[.agg #[.int .i64 f.orig.proto, .int .i64 f.orig.src, .int .i64 f.orig.sport, .int .i64 f.orig.dst, .int .i64 f.orig.dport, .int .i64 f.orig.kind, .int .i64 f.back.proto, .int .i64 f.back.src, .int .i64 f.back.sport, .int .i64 f.back.dst, .int .i64 f.back.dport, .int .i64 f.back.kind, .int .i64 f.state, .bool f.seen, .bool f.sure, .int .i64 f.till, .int .i64 f.count], .int .i64 now] w fun e w' => e = .returned (.int .i64 (tillF f now)) ∧ Below w.heap.size w w' := by
  obtain ⟨h00, h01⟩ := h0
  obtain ⟨hl0, hl1⟩ := hl
  have HL := hidS (fun W => specLife_any f.state W)
  have HM := hidS (fun b W => l01Min_any 1000000 b W)
  have hGF0 : Hid ((w.alloc (.cells #[.int .i64 f.orig.proto, .int .i64 f.orig.src, .int .i64 f.orig.sport, .int .i64 f.orig.dst, .int .i64 f.orig.dport, .int .i64 f.orig.kind, .int .i64 f.back.proto, .int .i64 f.back.src, .int .i64 f.back.sport, .int .i64 f.back.dst, .int .i64 f.back.dport, .int .i64 f.back.kind, .int .i64 f.state, .bool f.seen, .bool f.sure, .int .i64 f.till, .int .i64 f.count] 29)).heap[w.heap.size]? = some (.cells #[.int .i64 f.orig.proto, .int .i64 f.orig.src, .int .i64 f.orig.sport, .int .i64 f.orig.dst, .int .i64 f.orig.dport, .int .i64 f.orig.kind, .int .i64 f.back.proto, .int .i64 f.back.src, .int .i64 f.back.sport, .int .i64 f.back.dst, .int .i64 f.back.dport, .int .i64 f.back.kind, .int .i64 f.state, .bool f.seen, .bool f.sure, .int .i64 f.till, .int .i64 f.count] 29)) := by
    show _ = _
    have := heap_newG w (.cells #[.int .i64 f.orig.proto, .int .i64 f.orig.src, .int .i64 f.orig.sport, .int .i64 f.orig.dst, .int .i64 f.orig.dport, .int .i64 f.orig.kind, .int .i64 f.back.proto, .int .i64 f.back.src, .int .i64 f.back.sport, .int .i64 f.back.dst, .int .i64 f.back.dport, .int .i64 f.back.kind, .int .i64 f.state, .bool f.seen, .bool f.sure, .int .i64 f.till, .int .i64 f.count] 29)
    simpa using this
  have hL0 := hidS ((Below.refl w.heap.size w).alloc (Nat.le_refl _) (.cells #[.int .i64 f.orig.proto, .int .i64 f.orig.src, .int .i64 f.orig.sport, .int .i64 f.orig.dst, .int .i64 f.orig.dport, .int .i64 f.orig.kind, .int .i64 f.back.proto, .int .i64 f.back.src, .int .i64 f.back.sport, .int .i64 f.back.dst, .int .i64 f.back.dport, .int .i64 f.back.kind, .int .i64 f.state, .bool f.seen, .bool f.sure, .int .i64 f.till, .int .i64 f.count] 29))
  go_enter Try.func47, Try.ntmps47
  go_upto_region 1 with fail
  generalize (w.alloc (.cells #[.int .i64 f.orig.proto, .int .i64 f.orig.src, .int .i64 f.orig.sport, .int .i64 f.orig.dst, .int .i64 f.orig.dport, .int .i64 f.orig.kind, .int .i64 f.back.proto, .int .i64 f.back.src, .int .i64 f.back.sport, .int .i64 f.back.dst, .int .i64 f.back.dport, .int .i64 f.back.kind, .int .i64 f.state, .bool f.seen, .bool f.sure, .int .i64 f.till, .int .i64 f.count] 29)) = w0 at hGF0 hL0 ⊢
  have cF0 := blk_cell hGF0.out 0
  have cF1 := blk_cell hGF0.out 1
  have cF2 := blk_cell hGF0.out 2
  have cF3 := blk_cell hGF0.out 3
  have cF4 := blk_cell hGF0.out 4
  have cF5 := blk_cell hGF0.out 5
  have cF6 := blk_cell hGF0.out 6
  have cF7 := blk_cell hGF0.out 7
  have cF8 := blk_cell hGF0.out 8
  have cF9 := blk_cell hGF0.out 9
  have cF10 := blk_cell hGF0.out 10
  have cF11 := blk_cell hGF0.out 11
  have cF12 := blk_cell hGF0.out 12
  have cF13 := blk_cell hGF0.out 13
  have cF14 := blk_cell hGF0.out 14
  have cF15 := blk_cell hGF0.out 15
  have cF16 := blk_cell hGF0.out 16
  simp at cF0 cF1 cF2 cF3 cF4 cF5 cF6 cF7 cF8 cF9 cF10 cF11 cF12 cF13 cF14 cF15 cF16
  by_cases n6 : f.orig.proto = 6
  · have p6 : (f.orig.proto == 6) = true := beq_iff_eq.2 n6
    have E : Hid (tillF f now = minN 1000000 (now + (lifeZ f.state))) := by show _ = _; unfold tillF liveF; rw [if_pos n6]
    clear n6
    go_wp2_with fail
    refine (HL.out _).mono ?_
    rintro _ w1 ⟨rfl, hb1⟩
    clear cF0 cF1 cF2 cF3 cF4 cF5 cF6 cF7 cF8 cF9 cF10 cF11 cF12 cF13 cF14 cF15 cF16
    have hGF1 := hidS (blk_later hGF0.out hb1)
    have hL1 := hidS (hL0.out.trans (hb1.mono hL0.out.size))
    clear hb1 hL0 hGF0
    generalize lifeZ f.state = l at *
    go_wp2_with fail
    refine (HM.out _ _).mono ?_
    rintro _ v ⟨rfl, hv⟩
    rw [hv]
    clear hv v
    go_wp2_with fail
    go_ret
    exact ⟨by rw [E.out]; rfl, hL1.out⟩
  have p6 : (f.orig.proto == 6) = false := beq_eq_false_iff_ne.2 n6
  clear hl0 hl1 HL
  by_cases n17 : f.orig.proto = 17
  · have p17 : (f.orig.proto == 17) = true := beq_iff_eq.2 n17
    cases hu : f.sure
    · have E : Hid (tillF f now = minN 1000000 (now + (30))) := by show _ = _; unfold tillF liveF; rw [if_neg n6, if_pos n17, hu]; first | done | rfl
      clear n6 n17
      go_wp2_with fail
      refine (HM.out _ _).mono ?_
      rintro _ v ⟨rfl, hv⟩
      rw [hv]
      clear hv v
      go_wp2_with fail
      go_ret
      exact ⟨by rw [E.out]; rfl, hL0.out⟩
    · have E : Hid (tillF f now = minN 1000000 (now + (180))) := by show _ = _; unfold tillF liveF; rw [if_neg n6, if_pos n17, hu]; first | done | rfl
      clear n6 n17
      go_wp2_with fail
      refine (HM.out _ _).mono ?_
      rintro _ v ⟨rfl, hv⟩
      rw [hv]
      clear hv v
      go_wp2_with fail
      go_ret
      exact ⟨by rw [E.out]; rfl, hL0.out⟩
  have p17 : (f.orig.proto == 17) = false := beq_eq_false_iff_ne.2 n17
  have E : Hid (tillF f now = minN 1000000 (now + (10))) := by show _ = _; unfold tillF liveF; rw [if_neg n6, if_neg n17]
  clear n6 n17
  go_wp2_with fail
  refine (HM.out _ _).mono ?_
  rintro _ v ⟨rfl, hv⟩
  rw [hv]
  clear hv v
  go_wp2_with fail
  go_ret
  exact ⟨by rw [E.out]; rfl, hL0.out⟩
theorem l09Ill_any (c : Int) (w : World) :
    Calls Try.prog 23 #[.int .i64 c] w fun e w' => e = .returned (.agg #[.int .i64 0, .int .i64 0, .int .i64 0, .int .i64 0, .int .i64 0, .int .i64 0, .int .i64 0, .int .i64 0, .int .i64 0, .int .i64 0, .int .i64 0, .int .i64 0, .int .i64 0, .bool false, .bool false, .int .i64 0, .int .i64 0, .int .i64 c]) ∧ Below w.heap.size w w' := by
  have hGR0 : Hid ((w.alloc (.cells #[.int .i64 0, .int .i64 0, .int .i64 0, .int .i64 0, .int .i64 0, .int .i64 0, .int .i64 0, .int .i64 0, .int .i64 0, .int .i64 0, .int .i64 0, .int .i64 0, .int .i64 0, .bool false, .bool false, .int .i64 0, .int .i64 0, .int .i64 0] 36)).heap[w.heap.size]? = some (.cells #[.int .i64 0, .int .i64 0, .int .i64 0, .int .i64 0, .int .i64 0, .int .i64 0, .int .i64 0, .int .i64 0, .int .i64 0, .int .i64 0, .int .i64 0, .int .i64 0, .int .i64 0, .bool false, .bool false, .int .i64 0, .int .i64 0, .int .i64 0] 36)) := by
    show _ = _
    have := heap_newG w (.cells #[.int .i64 0, .int .i64 0, .int .i64 0, .int .i64 0, .int .i64 0, .int .i64 0, .int .i64 0, .int .i64 0, .int .i64 0, .int .i64 0, .int .i64 0, .int .i64 0, .int .i64 0, .bool false, .bool false, .int .i64 0, .int .i64 0, .int .i64 0] 36)
    simpa using this
  have hL0 := hidS ((Below.refl w.heap.size w).alloc (Nat.le_refl _) (.cells #[.int .i64 0, .int .i64 0, .int .i64 0, .int .i64 0, .int .i64 0, .int .i64 0, .int .i64 0, .int .i64 0, .int .i64 0, .int .i64 0, .int .i64 0, .int .i64 0, .int .i64 0, .bool false, .bool false, .int .i64 0, .int .i64 0, .int .i64 0] 36))
  go_enter Try.func23, Try.ntmps23
  go_upto_region 1 with fail
  generalize (w.alloc (.cells #[.int .i64 0, .int .i64 0, .int .i64 0, .int .i64 0, .int .i64 0, .int .i64 0, .int .i64 0, .int .i64 0, .int .i64 0, .int .i64 0, .int .i64 0, .int .i64 0, .int .i64 0, .bool false, .bool false, .int .i64 0, .int .i64 0, .int .i64 0] 36)) = w0 at hGR0 hL0 ⊢
  refine plain_into 2 _ [.is (.int .i64 c), .is (.agg #[.int .i64 0, .int .i64 0, .int .i64 0, .int .i64 0, .int .i64 0, .int .i64 0, .int .i64 0, .int .i64 0, .int .i64 0, .int .i64 0, .int .i64 0, .int .i64 0, .int .i64 0, .bool false, .bool false, .int .i64 0, .int .i64 0, .int .i64 c])] 1 2 4 36 36 (w.heap.size) #[.int .i64 0, .int .i64 0, .int .i64 0, .int .i64 0, .int .i64 0, .int .i64 0, .int .i64 0, .int .i64 0, .int .i64 0, .int .i64 0, .int .i64 0, .int .i64 0, .int .i64 0, .bool false, .bool false, .int .i64 0, .int .i64 0, .int .i64 0] #[.int .i64 0, .int .i64 0, .int .i64 0, .int .i64 0, .int .i64 0, .int .i64 0, .int .i64 0, .int .i64 0, .int .i64 0, .int .i64 0, .int .i64 0, .int .i64 0, .int .i64 0, .bool false, .bool false, .int .i64 0, .int .i64 0, .int .i64 c] rfl rfl rfl (by kernel_rfl) (by kernel_rfl) (by kernel_rfl) rfl rfl (by decide) (by kernel_rfl) (by kernel_rfl) (by decide) hGR0.out (by kernel_rfl) (by kernel_rfl) (by first | kernel_rfl | simp [Value.oneCell']) (by kernel_rfl) ?stepsA_1 ?finA_1
  case stepsA_1 =>
    refine ⟨?_, ?_, trivial⟩
    · refine ⟨rfl, fun v W ρ hC kc kf ks ki kd => ?_⟩
      have t0 : ρ (.tmp 0) = .int .i64 c := ki 0 (by decide)
      simp [execOp, go_sem, kc, t0]
      exact ⟨hC, Below.refl _ _, rfl⟩
    · refine ⟨rfl, fun v W ρ hC kc kf ks ki kd => ?_⟩
      have d0 : v 0 = .int .i64 c := by first | exact kd _ (mem0 rfl) rfl | exact kd _ (mem1 rfl) rfl | exact kd _ (mem2 rfl) rfl | exact kd _ (mem3 rfl) rfl | exact kd _ (mem4 rfl) rfl | exact kd _ (mem5 rfl) rfl | exact kd _ (Array.mem_of_getElem? (i := 6) rfl) rfl | exact kd _ (Array.mem_of_getElem? (i := 7) rfl) rfl
      have t3 : ρ (.tmp 3) = .int .i64 c := (ks 0 3 (by decide) rfl).trans d0
      simp [execOp, go_sem, kc, t3]
      exact ⟨hC, Below.refl _ _, rfl⟩
  intro vA_1 WA_1 hBA_1 hgA_1 hall
  simp [upto, Act.put]
  clear hall
  have hEA_1 := hidS (hL0.out.trans (hBA_1 w.heap.size (by omega)))
  have hcA_1 := loadVar_blk (P := Try.prog) hgA_1 Try.underlying36 rfl (by kernel_rfl)
  clear hBA_1 hgA_1 hL0 hGR0
  go_wp2_with fail
  exact bodyPost_ret (v := .agg #[.int .i64 0, .int .i64 0, .int .i64 0, .int .i64 0, .int .i64 0, .int .i64 0, .int .i64 0, .int .i64 0, .int .i64 0, .int .i64 0, .int .i64 0, .int .i64 0, .int .i64 0, .bool false, .bool false, .int .i64 0, .int .i64 0, .int .i64 c]) (results_cell Try.results23 rfl hcA_1) rfl ⟨rfl, hEA_1.out⟩
end Go.Proofs.Ytbhemimhmkgfiaa
