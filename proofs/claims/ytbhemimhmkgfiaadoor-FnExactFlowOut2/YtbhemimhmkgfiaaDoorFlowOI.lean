/- Proved here: goesAs of impl's ends, impl.FlowOut2 answer as the plain functions; all old memory stays (no conditions but those that stand there). -/
import Derived.Test.YtbhemimhmkgfiaaDoorFlowI2A
import Derived.Test.YtbhemimhmkgfiaaDoorFlowFacts
import Derived.Test.YtbhemimhmkgfiaaDoorInvI
import Derived.Test.YtbhemimhmkgfiaaDoorTWithI2
namespace Go.Proofs.YtbhemimhmkgfiaaDoor
open Go.ChangeShapes Go.WideShapes Go.ChangeAt Go.RowKit
set_option linter.unusedVariables false
set_option linter.unusedSimpArgs false
set_option maxRecDepth 100000

set_option maxHeartbeats 4000000 in
theorem goesAs_any (o b : Tp) (q : Bool) (w : World) : Calls Tryd.prog 24 #[.agg #[.int .i64 o.proto, .int .i64 o.src, .int .i64 o.sport, .int .i64 o.dst, .int .i64 o.dport, .int .i64 o.kind, .int .i64 b.proto, .int .i64 b.src, .int .i64 b.sport, .int .i64 b.dst, .int .i64 b.dport, .int .i64 b.kind], .bool q] w fun e w' => e = .returned (.agg #[.int .i64 (invAns (if q then o else b)).proto, .int .i64 (invAns (if q then o else b)).src, .int .i64 (invAns (if q then o else b)).sport, .int .i64 (invAns (if q then o else b)).dst, .int .i64 (invAns (if q then o else b)).dport, .int .i64 (invAns (if q then o else b)).kind]) ∧ Below w.heap.size w w' := by
  cases q
  · show Calls Tryd.prog 24 #[.agg #[.int .i64 o.proto, .int .i64 o.src, .int .i64 o.sport, .int .i64 o.dst, .int .i64 o.dport, .int .i64 o.kind, .int .i64 b.proto, .int .i64 b.src, .int .i64 b.sport, .int .i64 b.dst, .int .i64 b.dport, .int .i64 b.kind], .bool false] w fun e w' => e = .returned (.agg #[.int .i64 (invAns b).proto, .int .i64 (invAns b).src, .int .i64 (invAns b).sport, .int .i64 (invAns b).dst, .int .i64 (invAns b).dport, .int .i64 (invAns b).kind]) ∧ Below w.heap.size w w'
    have HC : Hid (∀ W, Calls Tryd.prog 41 #[.agg #[.int .i64 o.proto, .int .i64 o.src, .int .i64 o.sport, .int .i64 o.dst, .int .i64 o.dport, .int .i64 o.kind, .int .i64 b.proto, .int .i64 b.src, .int .i64 b.sport, .int .i64 b.dst, .int .i64 b.dport, .int .i64 b.kind], .bool true] W fun e w' => e = .returned (.agg #[.int .i64 b.proto, .int .i64 b.src, .int .i64 b.sport, .int .i64 b.dst, .int .i64 b.dport, .int .i64 b.kind]) ∧ Below W.heap.size W w') := hidS (fun W => comesAs_any o b true W)
    have HI := hidS (fun W => implInv_any b W)
    have hGE0 : Hid (((w.alloc (.cells #[.int .i64 o.proto, .int .i64 o.src, .int .i64 o.sport, .int .i64 o.dst, .int .i64 o.dport, .int .i64 o.kind, .int .i64 b.proto, .int .i64 b.src, .int .i64 b.sport, .int .i64 b.dst, .int .i64 b.dport, .int .i64 b.kind] 50)).alloc (.cells #[.int .i64 0, .int .i64 0, .int .i64 0, .int .i64 0, .int .i64 0, .int .i64 0] 33)).heap[w.heap.size]? = some (.cells #[.int .i64 o.proto, .int .i64 o.src, .int .i64 o.sport, .int .i64 o.dst, .int .i64 o.dport, .int .i64 o.kind, .int .i64 b.proto, .int .i64 b.src, .int .i64 b.sport, .int .i64 b.dst, .int .i64 b.dport, .int .i64 b.kind] 50)) := by
      show _ = _
      have := blk_alloc (heap_newG w (.cells #[.int .i64 o.proto, .int .i64 o.src, .int .i64 o.sport, .int .i64 o.dst, .int .i64 o.dport, .int .i64 o.kind, .int .i64 b.proto, .int .i64 b.src, .int .i64 b.sport, .int .i64 b.dst, .int .i64 b.dport, .int .i64 b.kind] 50)) (.cells #[.int .i64 0, .int .i64 0, .int .i64 0, .int .i64 0, .int .i64 0, .int .i64 0] 33)
      simpa using this
    have hGR0 : Hid (((w.alloc (.cells #[.int .i64 o.proto, .int .i64 o.src, .int .i64 o.sport, .int .i64 o.dst, .int .i64 o.dport, .int .i64 o.kind, .int .i64 b.proto, .int .i64 b.src, .int .i64 b.sport, .int .i64 b.dst, .int .i64 b.dport, .int .i64 b.kind] 50)).alloc (.cells #[.int .i64 0, .int .i64 0, .int .i64 0, .int .i64 0, .int .i64 0, .int .i64 0] 33)).heap[w.heap.size + 1]? = some (.cells #[.int .i64 0, .int .i64 0, .int .i64 0, .int .i64 0, .int .i64 0, .int .i64 0] 33)) := by
      show _ = _
      have := heap_newG (w.alloc (.cells #[.int .i64 o.proto, .int .i64 o.src, .int .i64 o.sport, .int .i64 o.dst, .int .i64 o.dport, .int .i64 o.kind, .int .i64 b.proto, .int .i64 b.src, .int .i64 b.sport, .int .i64 b.dst, .int .i64 b.dport, .int .i64 b.kind] 50)) (.cells #[.int .i64 0, .int .i64 0, .int .i64 0, .int .i64 0, .int .i64 0, .int .i64 0] 33)
      simpa using this
    have hL0 := hidS (((Below.refl w.heap.size w).alloc (Nat.le_refl _) (.cells #[.int .i64 o.proto, .int .i64 o.src, .int .i64 o.sport, .int .i64 o.dst, .int .i64 o.dport, .int .i64 o.kind, .int .i64 b.proto, .int .i64 b.src, .int .i64 b.sport, .int .i64 b.dst, .int .i64 b.dport, .int .i64 b.kind] 50)).alloc (by simp) (.cells #[.int .i64 0, .int .i64 0, .int .i64 0, .int .i64 0, .int .i64 0, .int .i64 0] 33))
    go_enter Tryd.func24, Tryd.ntmps24
    go_upto_region 1 with fail
    generalize ((w.alloc (.cells #[.int .i64 o.proto, .int .i64 o.src, .int .i64 o.sport, .int .i64 o.dst, .int .i64 o.dport, .int .i64 o.kind, .int .i64 b.proto, .int .i64 b.src, .int .i64 b.sport, .int .i64 b.dst, .int .i64 b.dport, .int .i64 b.kind] 50)).alloc (.cells #[.int .i64 0, .int .i64 0, .int .i64 0, .int .i64 0, .int .i64 0, .int .i64 0] 33)) = w0 at hGE0 hGR0 hL0 ⊢
    refine plain_into 5 _ [.is (.agg #[.int .i64 o.proto, .int .i64 o.src, .int .i64 o.sport, .int .i64 o.dst, .int .i64 o.dport, .int .i64 o.kind, .int .i64 b.proto, .int .i64 b.src, .int .i64 b.sport, .int .i64 b.dst, .int .i64 b.dport, .int .i64 b.kind]), .is (.bool false), .is (.bool true), .is (.agg #[.int .i64 b.proto, .int .i64 b.src, .int .i64 b.sport, .int .i64 b.dst, .int .i64 b.dport, .int .i64 b.kind]), .is (.agg #[.int .i64 (invAns b).proto, .int .i64 (invAns b).src, .int .i64 (invAns b).sport, .int .i64 (invAns b).dst, .int .i64 (invAns b).dport, .int .i64 (invAns b).kind])] 4 4 9 33 33 (w.heap.size + 1) #[.int .i64 0, .int .i64 0, .int .i64 0, .int .i64 0, .int .i64 0, .int .i64 0] #[.int .i64 (invAns b).proto, .int .i64 (invAns b).src, .int .i64 (invAns b).sport, .int .i64 (invAns b).dst, .int .i64 (invAns b).dport, .int .i64 (invAns b).kind] rfl rfl rfl (by kernel_rfl) (by kernel_rfl) (by kernel_rfl) rfl rfl (by decide) (by kernel_rfl) (by kernel_rfl) (by decide) hGR0.out (by kernel_rfl) (by kernel_rfl) (by first | kernel_rfl | simp [Value.oneCell']) (by kernel_rfl) ?stepsA_9 ?finA_9
    case stepsA_9 =>
      refine ⟨?_, ?_, ?_, ?_, ?_, trivial⟩
      · refine ⟨rfl, fun v W ρ hC kc kf ks ki kd => ?_⟩
        have t2 : ρ (.tmp 2) = .pointer (some ⟨w.heap.size, 0, none⟩) := ki 2 (by decide)
        simp only [execOp, t2, Sem.run_bind, loadAt_part (o := 0) [.int .i64 o.proto, .int .i64 o.src, .int .i64 o.sport, .int .i64 o.dst, .int .i64 o.dport, .int .i64 o.kind, .int .i64 b.proto, .int .i64 b.src, .int .i64 b.sport, .int .i64 b.dst, .int .i64 b.dport, .int .i64 b.kind] (blk_later hGE0.out hC) rfl Tryd.underlying50 rfl (by kernel_rfl), Result.andThen_ok, Sem.run_pure]
        exact ⟨hC, Below.refl _ _, rfl⟩
      · refine ⟨rfl, fun v W ρ hC kc kf ks ki kd => ?_⟩
        have t1 : ρ (.tmp 1) = .bool false := ki 1 (by decide)
        simp [execOp, go_sem, kc, t1]
        exact ⟨hC, Below.refl _ _, rfl⟩
      · refine ⟨rfl, fun v W ρ hC kc kf ks ki kd => ?_⟩
        have d1 : v 1 = .bool false := by first | exact kd _ (mem0 rfl) rfl | exact kd _ (mem1 rfl) rfl | exact kd _ (mem2 rfl) rfl | exact kd _ (mem3 rfl) rfl | exact kd _ (mem4 rfl) rfl | exact kd _ (mem5 rfl) rfl | exact kd _ (Array.mem_of_getElem? (i := 6) rfl) rfl | exact kd _ (Array.mem_of_getElem? (i := 7) rfl) rfl
        have t6 : ρ (.tmp 6) = .bool false := (ks 1 6 (by decide) rfl).trans d1
        simp [execOp, go_sem, kc, t6]
        exact ⟨hC, Below.refl _ _, rfl⟩
      · refine ⟨rfl, fun v W ρ hC kc kf ks ki kd => ?_⟩
        have d0 : v 0 = .agg #[.int .i64 o.proto, .int .i64 o.src, .int .i64 o.sport, .int .i64 o.dst, .int .i64 o.dport, .int .i64 o.kind, .int .i64 b.proto, .int .i64 b.src, .int .i64 b.sport, .int .i64 b.dst, .int .i64 b.dport, .int .i64 b.kind] := by first | exact kd _ (mem0 rfl) rfl | exact kd _ (mem1 rfl) rfl | exact kd _ (mem2 rfl) rfl | exact kd _ (mem3 rfl) rfl | exact kd _ (mem4 rfl) rfl | exact kd _ (mem5 rfl) rfl | exact kd _ (Array.mem_of_getElem? (i := 6) rfl) rfl | exact kd _ (Array.mem_of_getElem? (i := 7) rfl) rfl
        have t5 : ρ (.tmp 5) = .agg #[.int .i64 o.proto, .int .i64 o.src, .int .i64 o.sport, .int .i64 o.dst, .int .i64 o.dport, .int .i64 o.kind, .int .i64 b.proto, .int .i64 b.src, .int .i64 b.sport, .int .i64 b.dst, .int .i64 b.dport, .int .i64 b.kind] := (ks 0 5 (by decide) rfl).trans d0
        have d2 : v 2 = .bool true := by first | exact kd _ (mem0 rfl) rfl | exact kd _ (mem1 rfl) rfl | exact kd _ (mem2 rfl) rfl | exact kd _ (mem3 rfl) rfl | exact kd _ (mem4 rfl) rfl | exact kd _ (mem5 rfl) rfl | exact kd _ (Array.mem_of_getElem? (i := 6) rfl) rfl | exact kd _ (Array.mem_of_getElem? (i := 7) rfl) rfl
        have t7 : ρ (.tmp 7) = .bool true := (ks 2 7 (by decide) rfl).trans d2
        simp [execOp, go_sem, kc, t5, t7, kf]
        exact Calls.mono (HC.out W) (fun e x h => ⟨_, h.1, hC.trans (h.2.mono hC.size), h.2, rfl⟩)
      · refine ⟨rfl, fun v W ρ hC kc kf ks ki kd => ?_⟩
        have d3 : v 3 = .agg #[.int .i64 b.proto, .int .i64 b.src, .int .i64 b.sport, .int .i64 b.dst, .int .i64 b.dport, .int .i64 b.kind] := by first | exact kd _ (mem0 rfl) rfl | exact kd _ (mem1 rfl) rfl | exact kd _ (mem2 rfl) rfl | exact kd _ (mem3 rfl) rfl | exact kd _ (mem4 rfl) rfl | exact kd _ (mem5 rfl) rfl | exact kd _ (Array.mem_of_getElem? (i := 6) rfl) rfl | exact kd _ (Array.mem_of_getElem? (i := 7) rfl) rfl
        have t8 : ρ (.tmp 8) = .agg #[.int .i64 b.proto, .int .i64 b.src, .int .i64 b.sport, .int .i64 b.dst, .int .i64 b.dport, .int .i64 b.kind] := (ks 3 8 (by decide) rfl).trans d3
        simp [execOp, go_sem, kc, t8, kf]
        exact Calls.mono (HI.out W) (fun e x h => ⟨_, h.1, hC.trans (h.2.mono hC.size), h.2, rfl⟩)
    intro vA_9 WA_9 hBA_9 hgA_9 hall
    simp [upto, Act.put]
    clear hall
    have hEA_9 := hidS (hL0.out.trans (hBA_9 w.heap.size (by omega)))
    have hcA_9 := loadVar_blk (P := Tryd.prog) hgA_9 Tryd.underlying33 rfl (by kernel_rfl)
    clear hBA_9 hgA_9 hL0 hGE0 hGR0
    go_wp2_with fail
    exact bodyPost_ret (v := .agg #[.int .i64 (invAns b).proto, .int .i64 (invAns b).src, .int .i64 (invAns b).sport, .int .i64 (invAns b).dst, .int .i64 (invAns b).dport, .int .i64 (invAns b).kind]) (results_cell Tryd.results24 rfl hcA_9) rfl ⟨rfl, hEA_9.out⟩
  · show Calls Tryd.prog 24 #[.agg #[.int .i64 o.proto, .int .i64 o.src, .int .i64 o.sport, .int .i64 o.dst, .int .i64 o.dport, .int .i64 o.kind, .int .i64 b.proto, .int .i64 b.src, .int .i64 b.sport, .int .i64 b.dst, .int .i64 b.dport, .int .i64 b.kind], .bool true] w fun e w' => e = .returned (.agg #[.int .i64 (invAns o).proto, .int .i64 (invAns o).src, .int .i64 (invAns o).sport, .int .i64 (invAns o).dst, .int .i64 (invAns o).dport, .int .i64 (invAns o).kind]) ∧ Below w.heap.size w w'
    have HC : Hid (∀ W, Calls Tryd.prog 41 #[.agg #[.int .i64 o.proto, .int .i64 o.src, .int .i64 o.sport, .int .i64 o.dst, .int .i64 o.dport, .int .i64 o.kind, .int .i64 b.proto, .int .i64 b.src, .int .i64 b.sport, .int .i64 b.dst, .int .i64 b.dport, .int .i64 b.kind], .bool false] W fun e w' => e = .returned (.agg #[.int .i64 o.proto, .int .i64 o.src, .int .i64 o.sport, .int .i64 o.dst, .int .i64 o.dport, .int .i64 o.kind]) ∧ Below W.heap.size W w') := hidS (fun W => comesAs_any o b false W)
    have HI := hidS (fun W => implInv_any o W)
    have hGE0 : Hid (((w.alloc (.cells #[.int .i64 o.proto, .int .i64 o.src, .int .i64 o.sport, .int .i64 o.dst, .int .i64 o.dport, .int .i64 o.kind, .int .i64 b.proto, .int .i64 b.src, .int .i64 b.sport, .int .i64 b.dst, .int .i64 b.dport, .int .i64 b.kind] 50)).alloc (.cells #[.int .i64 0, .int .i64 0, .int .i64 0, .int .i64 0, .int .i64 0, .int .i64 0] 33)).heap[w.heap.size]? = some (.cells #[.int .i64 o.proto, .int .i64 o.src, .int .i64 o.sport, .int .i64 o.dst, .int .i64 o.dport, .int .i64 o.kind, .int .i64 b.proto, .int .i64 b.src, .int .i64 b.sport, .int .i64 b.dst, .int .i64 b.dport, .int .i64 b.kind] 50)) := by
      show _ = _
      have := blk_alloc (heap_newG w (.cells #[.int .i64 o.proto, .int .i64 o.src, .int .i64 o.sport, .int .i64 o.dst, .int .i64 o.dport, .int .i64 o.kind, .int .i64 b.proto, .int .i64 b.src, .int .i64 b.sport, .int .i64 b.dst, .int .i64 b.dport, .int .i64 b.kind] 50)) (.cells #[.int .i64 0, .int .i64 0, .int .i64 0, .int .i64 0, .int .i64 0, .int .i64 0] 33)
      simpa using this
    have hGR0 : Hid (((w.alloc (.cells #[.int .i64 o.proto, .int .i64 o.src, .int .i64 o.sport, .int .i64 o.dst, .int .i64 o.dport, .int .i64 o.kind, .int .i64 b.proto, .int .i64 b.src, .int .i64 b.sport, .int .i64 b.dst, .int .i64 b.dport, .int .i64 b.kind] 50)).alloc (.cells #[.int .i64 0, .int .i64 0, .int .i64 0, .int .i64 0, .int .i64 0, .int .i64 0] 33)).heap[w.heap.size + 1]? = some (.cells #[.int .i64 0, .int .i64 0, .int .i64 0, .int .i64 0, .int .i64 0, .int .i64 0] 33)) := by
      show _ = _
      have := heap_newG (w.alloc (.cells #[.int .i64 o.proto, .int .i64 o.src, .int .i64 o.sport, .int .i64 o.dst, .int .i64 o.dport, .int .i64 o.kind, .int .i64 b.proto, .int .i64 b.src, .int .i64 b.sport, .int .i64 b.dst, .int .i64 b.dport, .int .i64 b.kind] 50)) (.cells #[.int .i64 0, .int .i64 0, .int .i64 0, .int .i64 0, .int .i64 0, .int .i64 0] 33)
      simpa using this
    have hL0 := hidS (((Below.refl w.heap.size w).alloc (Nat.le_refl _) (.cells #[.int .i64 o.proto, .int .i64 o.src, .int .i64 o.sport, .int .i64 o.dst, .int .i64 o.dport, .int .i64 o.kind, .int .i64 b.proto, .int .i64 b.src, .int .i64 b.sport, .int .i64 b.dst, .int .i64 b.dport, .int .i64 b.kind] 50)).alloc (by simp) (.cells #[.int .i64 0, .int .i64 0, .int .i64 0, .int .i64 0, .int .i64 0, .int .i64 0] 33))
    go_enter Tryd.func24, Tryd.ntmps24
    go_upto_region 1 with fail
    generalize ((w.alloc (.cells #[.int .i64 o.proto, .int .i64 o.src, .int .i64 o.sport, .int .i64 o.dst, .int .i64 o.dport, .int .i64 o.kind, .int .i64 b.proto, .int .i64 b.src, .int .i64 b.sport, .int .i64 b.dst, .int .i64 b.dport, .int .i64 b.kind] 50)).alloc (.cells #[.int .i64 0, .int .i64 0, .int .i64 0, .int .i64 0, .int .i64 0, .int .i64 0] 33)) = w0 at hGE0 hGR0 hL0 ⊢
    refine plain_into 5 _ [.is (.agg #[.int .i64 o.proto, .int .i64 o.src, .int .i64 o.sport, .int .i64 o.dst, .int .i64 o.dport, .int .i64 o.kind, .int .i64 b.proto, .int .i64 b.src, .int .i64 b.sport, .int .i64 b.dst, .int .i64 b.dport, .int .i64 b.kind]), .is (.bool true), .is (.bool false), .is (.agg #[.int .i64 o.proto, .int .i64 o.src, .int .i64 o.sport, .int .i64 o.dst, .int .i64 o.dport, .int .i64 o.kind]), .is (.agg #[.int .i64 (invAns o).proto, .int .i64 (invAns o).src, .int .i64 (invAns o).sport, .int .i64 (invAns o).dst, .int .i64 (invAns o).dport, .int .i64 (invAns o).kind])] 4 4 9 33 33 (w.heap.size + 1) #[.int .i64 0, .int .i64 0, .int .i64 0, .int .i64 0, .int .i64 0, .int .i64 0] #[.int .i64 (invAns o).proto, .int .i64 (invAns o).src, .int .i64 (invAns o).sport, .int .i64 (invAns o).dst, .int .i64 (invAns o).dport, .int .i64 (invAns o).kind] rfl rfl rfl (by kernel_rfl) (by kernel_rfl) (by kernel_rfl) rfl rfl (by decide) (by kernel_rfl) (by kernel_rfl) (by decide) hGR0.out (by kernel_rfl) (by kernel_rfl) (by first | kernel_rfl | simp [Value.oneCell']) (by kernel_rfl) ?stepsA_10 ?finA_10
    case stepsA_10 =>
      refine ⟨?_, ?_, ?_, ?_, ?_, trivial⟩
      · refine ⟨rfl, fun v W ρ hC kc kf ks ki kd => ?_⟩
        have t2 : ρ (.tmp 2) = .pointer (some ⟨w.heap.size, 0, none⟩) := ki 2 (by decide)
        simp only [execOp, t2, Sem.run_bind, loadAt_part (o := 0) [.int .i64 o.proto, .int .i64 o.src, .int .i64 o.sport, .int .i64 o.dst, .int .i64 o.dport, .int .i64 o.kind, .int .i64 b.proto, .int .i64 b.src, .int .i64 b.sport, .int .i64 b.dst, .int .i64 b.dport, .int .i64 b.kind] (blk_later hGE0.out hC) rfl Tryd.underlying50 rfl (by kernel_rfl), Result.andThen_ok, Sem.run_pure]
        exact ⟨hC, Below.refl _ _, rfl⟩
      · refine ⟨rfl, fun v W ρ hC kc kf ks ki kd => ?_⟩
        have t1 : ρ (.tmp 1) = .bool true := ki 1 (by decide)
        simp [execOp, go_sem, kc, t1]
        exact ⟨hC, Below.refl _ _, rfl⟩
      · refine ⟨rfl, fun v W ρ hC kc kf ks ki kd => ?_⟩
        have d1 : v 1 = .bool true := by first | exact kd _ (mem0 rfl) rfl | exact kd _ (mem1 rfl) rfl | exact kd _ (mem2 rfl) rfl | exact kd _ (mem3 rfl) rfl | exact kd _ (mem4 rfl) rfl | exact kd _ (mem5 rfl) rfl | exact kd _ (Array.mem_of_getElem? (i := 6) rfl) rfl | exact kd _ (Array.mem_of_getElem? (i := 7) rfl) rfl
        have t6 : ρ (.tmp 6) = .bool true := (ks 1 6 (by decide) rfl).trans d1
        simp [execOp, go_sem, kc, t6]
        exact ⟨hC, Below.refl _ _, rfl⟩
      · refine ⟨rfl, fun v W ρ hC kc kf ks ki kd => ?_⟩
        have d0 : v 0 = .agg #[.int .i64 o.proto, .int .i64 o.src, .int .i64 o.sport, .int .i64 o.dst, .int .i64 o.dport, .int .i64 o.kind, .int .i64 b.proto, .int .i64 b.src, .int .i64 b.sport, .int .i64 b.dst, .int .i64 b.dport, .int .i64 b.kind] := by first | exact kd _ (mem0 rfl) rfl | exact kd _ (mem1 rfl) rfl | exact kd _ (mem2 rfl) rfl | exact kd _ (mem3 rfl) rfl | exact kd _ (mem4 rfl) rfl | exact kd _ (mem5 rfl) rfl | exact kd _ (Array.mem_of_getElem? (i := 6) rfl) rfl | exact kd _ (Array.mem_of_getElem? (i := 7) rfl) rfl
        have t5 : ρ (.tmp 5) = .agg #[.int .i64 o.proto, .int .i64 o.src, .int .i64 o.sport, .int .i64 o.dst, .int .i64 o.dport, .int .i64 o.kind, .int .i64 b.proto, .int .i64 b.src, .int .i64 b.sport, .int .i64 b.dst, .int .i64 b.dport, .int .i64 b.kind] := (ks 0 5 (by decide) rfl).trans d0
        have d2 : v 2 = .bool false := by first | exact kd _ (mem0 rfl) rfl | exact kd _ (mem1 rfl) rfl | exact kd _ (mem2 rfl) rfl | exact kd _ (mem3 rfl) rfl | exact kd _ (mem4 rfl) rfl | exact kd _ (mem5 rfl) rfl | exact kd _ (Array.mem_of_getElem? (i := 6) rfl) rfl | exact kd _ (Array.mem_of_getElem? (i := 7) rfl) rfl
        have t7 : ρ (.tmp 7) = .bool false := (ks 2 7 (by decide) rfl).trans d2
        simp [execOp, go_sem, kc, t5, t7, kf]
        exact Calls.mono (HC.out W) (fun e x h => ⟨_, h.1, hC.trans (h.2.mono hC.size), h.2, rfl⟩)
      · refine ⟨rfl, fun v W ρ hC kc kf ks ki kd => ?_⟩
        have d3 : v 3 = .agg #[.int .i64 o.proto, .int .i64 o.src, .int .i64 o.sport, .int .i64 o.dst, .int .i64 o.dport, .int .i64 o.kind] := by first | exact kd _ (mem0 rfl) rfl | exact kd _ (mem1 rfl) rfl | exact kd _ (mem2 rfl) rfl | exact kd _ (mem3 rfl) rfl | exact kd _ (mem4 rfl) rfl | exact kd _ (mem5 rfl) rfl | exact kd _ (Array.mem_of_getElem? (i := 6) rfl) rfl | exact kd _ (Array.mem_of_getElem? (i := 7) rfl) rfl
        have t8 : ρ (.tmp 8) = .agg #[.int .i64 o.proto, .int .i64 o.src, .int .i64 o.sport, .int .i64 o.dst, .int .i64 o.dport, .int .i64 o.kind] := (ks 3 8 (by decide) rfl).trans d3
        simp [execOp, go_sem, kc, t8, kf]
        exact Calls.mono (HI.out W) (fun e x h => ⟨_, h.1, hC.trans (h.2.mono hC.size), h.2, rfl⟩)
    intro vA_10 WA_10 hBA_10 hgA_10 hall
    simp [upto, Act.put]
    clear hall
    have hEA_10 := hidS (hL0.out.trans (hBA_10 w.heap.size (by omega)))
    have hcA_10 := loadVar_blk (P := Tryd.prog) hgA_10 Tryd.underlying33 rfl (by kernel_rfl)
    clear hBA_10 hgA_10 hL0 hGE0 hGR0
    go_wp2_with fail
    exact bodyPost_ret (v := .agg #[.int .i64 (invAns o).proto, .int .i64 (invAns o).src, .int .i64 (invAns o).sport, .int .i64 (invAns o).dst, .int .i64 (invAns o).dport, .int .i64 (invAns o).kind]) (results_cell Tryd.results24 rfl hcA_10) rfl ⟨rfl, hEA_10.out⟩
/-- what goes on may go on so -/
theorem out_with {f : Fl} {p : Pk} {b : Bool} (h : isOfF f p b = true) : withB p (invT (sideF f (!b))) = true := by
  obtain ⟨hf, hp, e⟩ := isOf_parts h
  have hpr := same_proto h
  unfold packB at hp
  simp only [Bool.and_eq_true, Bool.not_eq_true'] at hp
  have hr := side_right (!b) hf
  have ho := right_back hf
  have h2 := hf
  unfold rightF partB at h2
  simp only [Bool.and_eq_true, beq_iff_eq] at h2
  obtain ⟨⟨⟨⟨⟨_, hpp⟩, _⟩, _⟩, _⟩, hpt⟩ := h2
  have hsp : (sideF f (!b)).proto = p.proto := by unfold sideF; cases b <;> simp <;> omega
  have hk : p.kind = (sideF f b).kind := by rw [← e]; rfl
  have hkk : (invT (sideF f (!b))).kind = p.kind := by
    rw [hk]
    unfold invT
    simp only
    by_cases h1 : f.orig.proto = 1
    · rw [if_neg (by omega), if_pos h1] at hpt
      simp only [Bool.and_eq_true, beq_iff_eq] at hpt
      rw [if_pos (by omega)]
      unfold sideF; cases b <;> simp <;> omega
    · rw [if_neg (by omega)]
      have hq := side_right b hf
      have hq2 : ¬ (sideF f b).proto = 1 := by unfold sideF; cases b <;> simp <;> omega
      unfold rightT at hq
      rw [if_neg hq2] at hq
      simp only [Bool.and_eq_true, decide_eq_true_eq] at hq
      exact hq.2.2.symm
  unfold withB
  rw [hp.1, hp.2, inv_right hr, hkk]
  have : (invT (sideF f (!b))).proto = p.proto := hsp
  rw [this]
  simp
set_option maxHeartbeats 8000000 in
theorem implFO_any {aF aS aY aM : Addr} (f : Fl) (p : Pk) (b : Bool) (w : World) (hs : p.body.size ≤ maxLen) (hS : Sent aF aS aY aM w) :
    Calls Tryd.prog 9 #[.agg #[.int .i64 f.orig.proto, .int .i64 f.orig.src, .int .i64 f.orig.sport, .int .i64 f.orig.dst, .int .i64 f.orig.dport, .int .i64 f.orig.kind, .int .i64 f.back.proto, .int .i64 f.back.src, .int .i64 f.back.sport, .int .i64 f.back.dst, .int .i64 f.back.dport, .int .i64 f.back.kind, .int .i64 f.state, .bool f.seen, .bool f.sure, .int .i64 f.till, .int .i64 f.count], .agg #[.int .i64 p.src, .int .i64 p.dst, .int .i64 p.proto, .int .i64 p.a, .int .i64 p.b, .int .i64 p.kind, .int .i64 p.flags, .int .i64 p.seq, .int .i64 p.ack, .string p.body], .bool b] w fun e w' => e = .returned (.agg #[.int .i64 (outP f p b).src, .int .i64 (outP f p b).dst, .int .i64 (outP f p b).proto, .int .i64 (outP f p b).a, .int .i64 (outP f p b).b, .int .i64 (outP f p b).kind, .int .i64 (outP f p b).flags, .int .i64 (outP f p b).seq, .int .i64 (outP f p b).ack, .string (outP f p b).body, .int .i64 (outC f p b)]) ∧ Below w.heap.size w w' := by
  have EB : Hid ((rightF f && sameT (ofAns p) (sideF f b)) = isOfF f p b) := isOf_eq f p b
  have HT := hidS (fun W => talkOf_any f W)
  have HR := hidS (fun W => isRight_any f W)
  have HO := hidS (fun W => isOf_any f p b W hs)
  have HG := hidS (fun W => goesAs_any f.orig f.back b W)
  have hSd : Hid ((if b then f.orig else f.back) = sideF f (!b)) := by show _ = _; unfold sideF; cases b <;> rfl
  rw [hSd.out] at HG
  have HW := hidS (fun W (h : Below w.heap.size w W) => implWith_any p (invT (sideF f (!b))) W hs (hS.later h))
  clear hs hS hSd
  have hGF0 : Hid ((((w.alloc (.cells #[.int .i64 f.orig.proto, .int .i64 f.orig.src, .int .i64 f.orig.sport, .int .i64 f.orig.dst, .int .i64 f.orig.dport, .int .i64 f.orig.kind, .int .i64 f.back.proto, .int .i64 f.back.src, .int .i64 f.back.sport, .int .i64 f.back.dst, .int .i64 f.back.dport, .int .i64 f.back.kind, .int .i64 f.state, .bool f.seen, .bool f.sure, .int .i64 f.till, .int .i64 f.count] 35)).alloc (.cells #[.int .i64 p.src, .int .i64 p.dst, .int .i64 p.proto, .int .i64 p.a, .int .i64 p.b, .int .i64 p.kind, .int .i64 p.flags, .int .i64 p.seq, .int .i64 p.ack, .string p.body] 29)).alloc (.cells #[.int .i64 0, .int .i64 0, .int .i64 0, .int .i64 0, .int .i64 0, .int .i64 0, .int .i64 0, .int .i64 0, .int .i64 0, .string ⟨#[]⟩, .int .i64 0] 31)).heap[w.heap.size]? = some (.cells #[.int .i64 f.orig.proto, .int .i64 f.orig.src, .int .i64 f.orig.sport, .int .i64 f.orig.dst, .int .i64 f.orig.dport, .int .i64 f.orig.kind, .int .i64 f.back.proto, .int .i64 f.back.src, .int .i64 f.back.sport, .int .i64 f.back.dst, .int .i64 f.back.dport, .int .i64 f.back.kind, .int .i64 f.state, .bool f.seen, .bool f.sure, .int .i64 f.till, .int .i64 f.count] 35)) := by
    show _ = _
    have := blk_alloc (blk_alloc (heap_newG w (.cells #[.int .i64 f.orig.proto, .int .i64 f.orig.src, .int .i64 f.orig.sport, .int .i64 f.orig.dst, .int .i64 f.orig.dport, .int .i64 f.orig.kind, .int .i64 f.back.proto, .int .i64 f.back.src, .int .i64 f.back.sport, .int .i64 f.back.dst, .int .i64 f.back.dport, .int .i64 f.back.kind, .int .i64 f.state, .bool f.seen, .bool f.sure, .int .i64 f.till, .int .i64 f.count] 35)) (.cells #[.int .i64 p.src, .int .i64 p.dst, .int .i64 p.proto, .int .i64 p.a, .int .i64 p.b, .int .i64 p.kind, .int .i64 p.flags, .int .i64 p.seq, .int .i64 p.ack, .string p.body] 29)) (.cells #[.int .i64 0, .int .i64 0, .int .i64 0, .int .i64 0, .int .i64 0, .int .i64 0, .int .i64 0, .int .i64 0, .int .i64 0, .string ⟨#[]⟩, .int .i64 0] 31)
    simpa using this
  have hGP0 : Hid ((((w.alloc (.cells #[.int .i64 f.orig.proto, .int .i64 f.orig.src, .int .i64 f.orig.sport, .int .i64 f.orig.dst, .int .i64 f.orig.dport, .int .i64 f.orig.kind, .int .i64 f.back.proto, .int .i64 f.back.src, .int .i64 f.back.sport, .int .i64 f.back.dst, .int .i64 f.back.dport, .int .i64 f.back.kind, .int .i64 f.state, .bool f.seen, .bool f.sure, .int .i64 f.till, .int .i64 f.count] 35)).alloc (.cells #[.int .i64 p.src, .int .i64 p.dst, .int .i64 p.proto, .int .i64 p.a, .int .i64 p.b, .int .i64 p.kind, .int .i64 p.flags, .int .i64 p.seq, .int .i64 p.ack, .string p.body] 29)).alloc (.cells #[.int .i64 0, .int .i64 0, .int .i64 0, .int .i64 0, .int .i64 0, .int .i64 0, .int .i64 0, .int .i64 0, .int .i64 0, .string ⟨#[]⟩, .int .i64 0] 31)).heap[w.heap.size + 1]? = some (.cells #[.int .i64 p.src, .int .i64 p.dst, .int .i64 p.proto, .int .i64 p.a, .int .i64 p.b, .int .i64 p.kind, .int .i64 p.flags, .int .i64 p.seq, .int .i64 p.ack, .string p.body] 29)) := by
    show _ = _
    have := blk_alloc (heap_newG (w.alloc (.cells #[.int .i64 f.orig.proto, .int .i64 f.orig.src, .int .i64 f.orig.sport, .int .i64 f.orig.dst, .int .i64 f.orig.dport, .int .i64 f.orig.kind, .int .i64 f.back.proto, .int .i64 f.back.src, .int .i64 f.back.sport, .int .i64 f.back.dst, .int .i64 f.back.dport, .int .i64 f.back.kind, .int .i64 f.state, .bool f.seen, .bool f.sure, .int .i64 f.till, .int .i64 f.count] 35)) (.cells #[.int .i64 p.src, .int .i64 p.dst, .int .i64 p.proto, .int .i64 p.a, .int .i64 p.b, .int .i64 p.kind, .int .i64 p.flags, .int .i64 p.seq, .int .i64 p.ack, .string p.body] 29)) (.cells #[.int .i64 0, .int .i64 0, .int .i64 0, .int .i64 0, .int .i64 0, .int .i64 0, .int .i64 0, .int .i64 0, .int .i64 0, .string ⟨#[]⟩, .int .i64 0] 31)
    simpa using this
  have hGR0 : Hid ((((w.alloc (.cells #[.int .i64 f.orig.proto, .int .i64 f.orig.src, .int .i64 f.orig.sport, .int .i64 f.orig.dst, .int .i64 f.orig.dport, .int .i64 f.orig.kind, .int .i64 f.back.proto, .int .i64 f.back.src, .int .i64 f.back.sport, .int .i64 f.back.dst, .int .i64 f.back.dport, .int .i64 f.back.kind, .int .i64 f.state, .bool f.seen, .bool f.sure, .int .i64 f.till, .int .i64 f.count] 35)).alloc (.cells #[.int .i64 p.src, .int .i64 p.dst, .int .i64 p.proto, .int .i64 p.a, .int .i64 p.b, .int .i64 p.kind, .int .i64 p.flags, .int .i64 p.seq, .int .i64 p.ack, .string p.body] 29)).alloc (.cells #[.int .i64 0, .int .i64 0, .int .i64 0, .int .i64 0, .int .i64 0, .int .i64 0, .int .i64 0, .int .i64 0, .int .i64 0, .string ⟨#[]⟩, .int .i64 0] 31)).heap[w.heap.size + 2]? = some (.cells #[.int .i64 0, .int .i64 0, .int .i64 0, .int .i64 0, .int .i64 0, .int .i64 0, .int .i64 0, .int .i64 0, .int .i64 0, .string ⟨#[]⟩, .int .i64 0] 31)) := by
    show _ = _
    have := heap_newG ((w.alloc (.cells #[.int .i64 f.orig.proto, .int .i64 f.orig.src, .int .i64 f.orig.sport, .int .i64 f.orig.dst, .int .i64 f.orig.dport, .int .i64 f.orig.kind, .int .i64 f.back.proto, .int .i64 f.back.src, .int .i64 f.back.sport, .int .i64 f.back.dst, .int .i64 f.back.dport, .int .i64 f.back.kind, .int .i64 f.state, .bool f.seen, .bool f.sure, .int .i64 f.till, .int .i64 f.count] 35)).alloc (.cells #[.int .i64 p.src, .int .i64 p.dst, .int .i64 p.proto, .int .i64 p.a, .int .i64 p.b, .int .i64 p.kind, .int .i64 p.flags, .int .i64 p.seq, .int .i64 p.ack, .string p.body] 29)) (.cells #[.int .i64 0, .int .i64 0, .int .i64 0, .int .i64 0, .int .i64 0, .int .i64 0, .int .i64 0, .int .i64 0, .int .i64 0, .string ⟨#[]⟩, .int .i64 0] 31)
    simpa using this
  have hL0 := hidS ((((Below.refl w.heap.size w).alloc (Nat.le_refl _) (.cells #[.int .i64 f.orig.proto, .int .i64 f.orig.src, .int .i64 f.orig.sport, .int .i64 f.orig.dst, .int .i64 f.orig.dport, .int .i64 f.orig.kind, .int .i64 f.back.proto, .int .i64 f.back.src, .int .i64 f.back.sport, .int .i64 f.back.dst, .int .i64 f.back.dport, .int .i64 f.back.kind, .int .i64 f.state, .bool f.seen, .bool f.sure, .int .i64 f.till, .int .i64 f.count] 35)).alloc (by simp) (.cells #[.int .i64 p.src, .int .i64 p.dst, .int .i64 p.proto, .int .i64 p.a, .int .i64 p.b, .int .i64 p.kind, .int .i64 p.flags, .int .i64 p.seq, .int .i64 p.ack, .string p.body] 29)).alloc (by simp; omega) (.cells #[.int .i64 0, .int .i64 0, .int .i64 0, .int .i64 0, .int .i64 0, .int .i64 0, .int .i64 0, .int .i64 0, .int .i64 0, .string ⟨#[]⟩, .int .i64 0] 31))
  go_enter Tryd.func9, Tryd.ntmps9
  go_upto_region 1 with fail
  generalize (((w.alloc (.cells #[.int .i64 f.orig.proto, .int .i64 f.orig.src, .int .i64 f.orig.sport, .int .i64 f.orig.dst, .int .i64 f.orig.dport, .int .i64 f.orig.kind, .int .i64 f.back.proto, .int .i64 f.back.src, .int .i64 f.back.sport, .int .i64 f.back.dst, .int .i64 f.back.dport, .int .i64 f.back.kind, .int .i64 f.state, .bool f.seen, .bool f.sure, .int .i64 f.till, .int .i64 f.count] 35)).alloc (.cells #[.int .i64 p.src, .int .i64 p.dst, .int .i64 p.proto, .int .i64 p.a, .int .i64 p.b, .int .i64 p.kind, .int .i64 p.flags, .int .i64 p.seq, .int .i64 p.ack, .string p.body] 29)).alloc (.cells #[.int .i64 0, .int .i64 0, .int .i64 0, .int .i64 0, .int .i64 0, .int .i64 0, .int .i64 0, .int .i64 0, .int .i64 0, .string ⟨#[]⟩, .int .i64 0] 31)) = w0 at hGF0 hGP0 hGR0 hL0 ⊢
  refine plain_struct 3 _ [.is (.agg #[.int .i64 f.orig.proto, .int .i64 f.orig.src, .int .i64 f.orig.sport, .int .i64 f.orig.dst, .int .i64 f.orig.dport, .int .i64 f.orig.kind, .int .i64 f.back.proto, .int .i64 f.back.src, .int .i64 f.back.sport, .int .i64 f.back.dst, .int .i64 f.back.dport, .int .i64 f.back.kind, .int .i64 f.state, .bool f.seen, .bool f.sure, .int .i64 f.till, .int .i64 f.count]), .is (.agg #[.int .i64 f.orig.proto, .int .i64 f.orig.src, .int .i64 f.orig.sport, .int .i64 f.orig.dst, .int .i64 f.orig.dport, .int .i64 f.orig.kind, .int .i64 f.back.proto, .int .i64 f.back.src, .int .i64 f.back.sport, .int .i64 f.back.dst, .int .i64 f.back.dport, .int .i64 f.back.kind, .int .i64 f.state, .bool f.seen, .bool f.sure, .int .i64 f.till, .int .i64 f.count]), .blk w0.heap.size #[.int .i64 0, .int .i64 0, .int .i64 0, .int .i64 0, .int .i64 0, .int .i64 0, .int .i64 0, .int .i64 0, .int .i64 0, .int .i64 0, .int .i64 0, .int .i64 0, .int .i64 0, .bool false, .bool false, .int .i64 0, .int .i64 0] 52] 2 1 7 9 52 52 #[.int .i64 0, .int .i64 0, .int .i64 0, .int .i64 0, .int .i64 0, .int .i64 0, .int .i64 0, .int .i64 0, .int .i64 0, .int .i64 0, .int .i64 0, .int .i64 0, .int .i64 0, .bool false, .bool false, .int .i64 0, .int .i64 0] #[.int .i64 f.orig.proto, .int .i64 f.orig.src, .int .i64 f.orig.sport, .int .i64 f.orig.dst, .int .i64 f.orig.dport, .int .i64 f.orig.kind, .int .i64 f.back.proto, .int .i64 f.back.src, .int .i64 f.back.sport, .int .i64 f.back.dst, .int .i64 f.back.dport, .int .i64 f.back.kind, .int .i64 f.state, .bool f.seen, .bool f.sure, .int .i64 f.till, .int .i64 f.count] rfl rfl rfl (by kernel_rfl) (by kernel_rfl) (by kernel_rfl) rfl rfl rfl rfl (by decide) (by decide) rfl rfl rfl (by first | kernel_rfl | simp [Value.oneCell']) (by kernel_rfl) ?stepsA_11 ?finA_11
  case stepsA_11 =>
    refine ⟨?_, ?_, ?_, trivial⟩
    · refine ⟨rfl, fun v W ρ hC kc kf ks ki kd => ?_⟩
      have t3 : ρ (.tmp 3) = .pointer (some ⟨w.heap.size, 0, none⟩) := ki 3 (by decide)
      simp only [execOp, t3, Sem.run_bind, loadAt_part (o := 0) [.int .i64 f.orig.proto, .int .i64 f.orig.src, .int .i64 f.orig.sport, .int .i64 f.orig.dst, .int .i64 f.orig.dport, .int .i64 f.orig.kind, .int .i64 f.back.proto, .int .i64 f.back.src, .int .i64 f.back.sport, .int .i64 f.back.dst, .int .i64 f.back.dport, .int .i64 f.back.kind, .int .i64 f.state, .bool f.seen, .bool f.sure, .int .i64 f.till, .int .i64 f.count] (blk_later hGF0.out hC) rfl Tryd.underlying35 rfl (by kernel_rfl), Result.andThen_ok, Sem.run_pure]
      exact ⟨hC, Below.refl _ _, rfl⟩
    · refine ⟨rfl, fun v W ρ hC kc kf ks ki kd => ?_⟩
      have d0 : v 0 = .agg #[.int .i64 f.orig.proto, .int .i64 f.orig.src, .int .i64 f.orig.sport, .int .i64 f.orig.dst, .int .i64 f.orig.dport, .int .i64 f.orig.kind, .int .i64 f.back.proto, .int .i64 f.back.src, .int .i64 f.back.sport, .int .i64 f.back.dst, .int .i64 f.back.dport, .int .i64 f.back.kind, .int .i64 f.state, .bool f.seen, .bool f.sure, .int .i64 f.till, .int .i64 f.count] := by first | exact kd _ (mem0 rfl) rfl | exact kd _ (mem1 rfl) rfl | exact kd _ (mem2 rfl) rfl | exact kd _ (mem3 rfl) rfl | exact kd _ (mem4 rfl) rfl | exact kd _ (mem5 rfl) rfl | exact kd _ (Array.mem_of_getElem? (i := 6) rfl) rfl | exact kd _ (Array.mem_of_getElem? (i := 7) rfl) rfl
      have t8 : ρ (.tmp 8) = .agg #[.int .i64 f.orig.proto, .int .i64 f.orig.src, .int .i64 f.orig.sport, .int .i64 f.orig.dst, .int .i64 f.orig.dport, .int .i64 f.orig.kind, .int .i64 f.back.proto, .int .i64 f.back.src, .int .i64 f.back.sport, .int .i64 f.back.dst, .int .i64 f.back.dport, .int .i64 f.back.kind, .int .i64 f.state, .bool f.seen, .bool f.sure, .int .i64 f.till, .int .i64 f.count] := (ks 0 8 (by decide) rfl).trans d0
      simp [execOp, go_sem, kc, t8, kf]
      exact Calls.mono (HT.out W) (fun e x h => ⟨_, h.1, hC.trans (h.2.mono hC.size), h.2, rfl⟩)
    · refine ⟨rfl, fun v W ρ hC kc kf ks ki kd => ?_⟩
      simp [execOp, go_sem]
      exact ⟨hC.alloc hC.size _, (Below.refl _ _).alloc (Nat.le_refl _) _, W.heap.size, rfl, hC.size, heap_newG _ _⟩
  intro vA_11 w1 gK hb hvB hnK hBk hall
  simp [upto, Act.put]
  rw [hvB]
  clear hall hvB
  have hGF1 := hidS (blk_later hGF0.out hb)
  have lKF := blk_lt hGF0.out
  have hGP1 := hidS (blk_later hGP0.out hb)
  have lKP := blk_lt hGP0.out
  have hGR1 := hidS (blk_later hGR0.out hb)
  have lKR := blk_lt hGR0.out
  have lwK := hL0.out.size
  have hL1 := hidS (hL0.out.trans (hb.mono hL0.out.size))
  have hGK1 := hidS hBk
  clear hb hBk hL0 hGF0 hGP0 hGR0
  go_wp2_with (first | refine wpList_load_blk 52 (.tmp 7) rfl rfl rfl hGK1.out Tryd.underlying52 rfl (by kernel_rfl) ?_)
  refine (HR.out _).mono ?_
  rintro _ w2 ⟨rfl, hb2⟩
  have hGF2 := hidS (blk_later hGF1.out hb2)
  have hGP2 := hidS (blk_later hGP1.out hb2)
  have hGR2 := hidS (blk_later hGR1.out hb2)
  have hGK2 := hidS (blk_later hGK1.out hb2)
  have hL2 := hidS (hL1.out.trans (hb2.mono hL1.out.size))
  clear hb2 hL1 hGF1 hGP1 hGR1 hGK1
  cases h0 : rightF f
  · have E0 : Hid (isOfF f p b = false) := by show _ = _; rw [← EB.out, h0]; simp
    have EA : Hid (outP f p b = zeroPk) := hidS (if_neg (by rw [E0.out]; simp))
    have EC : Hid (outC f p b = 1) := hidS (if_neg (by rw [E0.out]; simp))
    clear EB HT HR HO HG HW
    go_upto_region 3 with fail
    refine plain_into 1 _ [.is (.agg #[.int .i64 0, .int .i64 0, .int .i64 0, .int .i64 0, .int .i64 0, .int .i64 0, .int .i64 0, .int .i64 0, .int .i64 0, .string ⟨#[]⟩, .int .i64 1])] 0 6 20 31 31 (w.heap.size + 2) #[.int .i64 0, .int .i64 0, .int .i64 0, .int .i64 0, .int .i64 0, .int .i64 0, .int .i64 0, .int .i64 0, .int .i64 0, .string ⟨#[]⟩, .int .i64 0] #[.int .i64 0, .int .i64 0, .int .i64 0, .int .i64 0, .int .i64 0, .int .i64 0, .int .i64 0, .int .i64 0, .int .i64 0, .string ⟨#[]⟩, .int .i64 1] rfl rfl rfl (by kernel_rfl) (by kernel_rfl) (by kernel_rfl) rfl rfl (by decide) (by kernel_rfl) (by kernel_rfl) (by decide) hGR2.out (by kernel_rfl) (by kernel_rfl) (by first | kernel_rfl | simp [Value.oneCell']) (by kernel_rfl) ?stepsN_12 ?finN_12
    case stepsN_12 =>
      refine ⟨?_, trivial⟩
      · refine ⟨rfl, fun v W ρ hC kc kf ks ki kd => ?_⟩
        simp [execOp, go_sem, kc, ]
        exact ⟨hC, Below.refl _ _, rfl⟩
    intro vN_12 WN_12 hBN_12 hgN_12 hall
    simp [upto, Act.put]
    clear hall
    have hEN_12 := hidS (hL2.out.trans (hBN_12 w.heap.size (by omega)))
    have hcN_12 := loadVar_blk (P := Tryd.prog) hgN_12 Tryd.underlying31 rfl (by kernel_rfl)
    clear hBN_12 hgN_12 hL2 hGF2 hGP2 hGR2 hGK2
    go_wp2_with fail
    exact bodyPost_ret (v := .agg #[.int .i64 0, .int .i64 0, .int .i64 0, .int .i64 0, .int .i64 0, .int .i64 0, .int .i64 0, .int .i64 0, .int .i64 0, .string ⟨#[]⟩, .int .i64 1]) (results_cell Tryd.results9 rfl hcN_12) rfl ⟨by rw [EA.out, EC.out]; rfl, hEN_12.out⟩
  have cP0 := blk_cell hGP2.out 0
  have cP1 := blk_cell hGP2.out 1
  have cP2 := blk_cell hGP2.out 2
  have cP3 := blk_cell hGP2.out 3
  have cP4 := blk_cell hGP2.out 4
  have cP5 := blk_cell hGP2.out 5
  have cP6 := blk_cell hGP2.out 6
  have cP7 := blk_cell hGP2.out 7
  have cP8 := blk_cell hGP2.out 8
  have cP9 := blk_cell hGP2.out 9
  simp at cP0 cP1 cP2 cP3 cP4 cP5 cP6 cP7 cP8 cP9
  go_wp2_with (first | refine wpList_load_blk 52 (.tmp 7) rfl rfl rfl hGK2.out Tryd.underlying52 rfl (by kernel_rfl) ?_)
  refine (HO.out _).mono ?_
  rintro _ w3 ⟨rfl, hb3⟩
  clear cP0 cP1 cP2 cP3 cP4 cP5 cP6 cP7 cP8 cP9
  have hGF3 := hidS (blk_later hGF2.out hb3)
  have hGP3 := hidS (blk_later hGP2.out hb3)
  have hGR3 := hidS (blk_later hGR2.out hb3)
  have hGK3 := hidS (blk_later hGK2.out hb3)
  have hL3 := hidS (hL2.out.trans (hb3.mono hL2.out.size))
  clear hb3 hL2 hGF2 hGP2 hGR2 hGK2
  cases h1 : sameT (ofAns p) (sideF f b)
  · have E0 : Hid (isOfF f p b = false) := by show _ = _; rw [← EB.out, h0, h1]; simp
    have EA : Hid (outP f p b = zeroPk) := hidS (if_neg (by rw [E0.out]; simp))
    have EC : Hid (outC f p b = 1) := hidS (if_neg (by rw [E0.out]; simp))
    clear EB HT HR HO HG HW
    go_upto_region 3 with fail
    refine plain_into 1 _ [.is (.agg #[.int .i64 0, .int .i64 0, .int .i64 0, .int .i64 0, .int .i64 0, .int .i64 0, .int .i64 0, .int .i64 0, .int .i64 0, .string ⟨#[]⟩, .int .i64 1])] 0 6 20 31 31 (w.heap.size + 2) #[.int .i64 0, .int .i64 0, .int .i64 0, .int .i64 0, .int .i64 0, .int .i64 0, .int .i64 0, .int .i64 0, .int .i64 0, .string ⟨#[]⟩, .int .i64 0] #[.int .i64 0, .int .i64 0, .int .i64 0, .int .i64 0, .int .i64 0, .int .i64 0, .int .i64 0, .int .i64 0, .int .i64 0, .string ⟨#[]⟩, .int .i64 1] rfl rfl rfl (by kernel_rfl) (by kernel_rfl) (by kernel_rfl) rfl rfl (by decide) (by kernel_rfl) (by kernel_rfl) (by decide) hGR3.out (by kernel_rfl) (by kernel_rfl) (by first | kernel_rfl | simp [Value.oneCell']) (by kernel_rfl) ?stepsN_13 ?finN_13
    case stepsN_13 =>
      refine ⟨?_, trivial⟩
      · refine ⟨rfl, fun v W ρ hC kc kf ks ki kd => ?_⟩
        simp [execOp, go_sem, kc, ]
        exact ⟨hC, Below.refl _ _, rfl⟩
    intro vN_13 WN_13 hBN_13 hgN_13 hall
    simp [upto, Act.put]
    clear hall
    have hEN_13 := hidS (hL3.out.trans (hBN_13 w.heap.size (by omega)))
    have hcN_13 := loadVar_blk (P := Tryd.prog) hgN_13 Tryd.underlying31 rfl (by kernel_rfl)
    clear hBN_13 hgN_13 hL3 hGF3 hGP3 hGR3 hGK3
    go_wp2_with fail
    exact bodyPost_ret (v := .agg #[.int .i64 0, .int .i64 0, .int .i64 0, .int .i64 0, .int .i64 0, .int .i64 0, .int .i64 0, .int .i64 0, .int .i64 0, .string ⟨#[]⟩, .int .i64 1]) (results_cell Tryd.results9 rfl hcN_13) rfl ⟨by rw [EA.out, EC.out]; rfl, hEN_13.out⟩
  have E1 : Hid (isOfF f p b = true) := by show _ = _; rw [← EB.out, h0, h1]; rfl
  have EA : Hid (outP f p b = withP p (invT (sideF f (!b)))) := by show _ = _; rw [withP_yes (out_with E1.out)]; exact if_pos E1.out
  have EC : Hid (outC f p b = withC p (invT (sideF f (!b)))) := by show _ = _; rw [withC_yes (out_with E1.out)]; exact if_pos E1.out
  have hiv : invAns (sideF f (!b)) = invT (sideF f (!b)) := if_pos (side_right (!b) h0)
  rw [hiv] at HG
  clear h0 h1 hiv EB HT HR HO
  go_upto_region 4 with fail
  refine grow_into 6 _ [.is (.agg #[.int .i64 p.src, .int .i64 p.dst, .int .i64 p.proto, .int .i64 p.a, .int .i64 p.b, .int .i64 p.kind, .int .i64 p.flags, .int .i64 p.seq, .int .i64 p.ack, .string p.body]), .is (.pointer (some ⟨gK, 0, none⟩)), .is (.agg #[.int .i64 f.orig.proto, .int .i64 f.orig.src, .int .i64 f.orig.sport, .int .i64 f.orig.dst, .int .i64 f.orig.dport, .int .i64 f.orig.kind, .int .i64 f.back.proto, .int .i64 f.back.src, .int .i64 f.back.sport, .int .i64 f.back.dst, .int .i64 f.back.dport, .int .i64 f.back.kind]), .is (.bool b), .is (.agg #[.int .i64 (invT (sideF f (!b))).proto, .int .i64 (invT (sideF f (!b))).src, .int .i64 (invT (sideF f (!b))).sport, .int .i64 (invT (sideF f (!b))).dst, .int .i64 (invT (sideF f (!b))).dport, .int .i64 (invT (sideF f (!b))).kind]), .is (.agg #[.int .i64 (withP p (invT (sideF f (!b)))).src, .int .i64 (withP p (invT (sideF f (!b)))).dst, .int .i64 (withP p (invT (sideF f (!b)))).proto, .int .i64 (withP p (invT (sideF f (!b)))).a, .int .i64 (withP p (invT (sideF f (!b)))).b, .int .i64 (withP p (invT (sideF f (!b)))).kind, .int .i64 (withP p (invT (sideF f (!b)))).flags, .int .i64 (withP p (invT (sideF f (!b)))).seq, .int .i64 (withP p (invT (sideF f (!b)))).ack, .string (withP p (invT (sideF f (!b)))).body, .int .i64 (withC p (invT (sideF f (!b))))])] 5 6 26 31 31 (w.heap.size + 2) #[.int .i64 0, .int .i64 0, .int .i64 0, .int .i64 0, .int .i64 0, .int .i64 0, .int .i64 0, .int .i64 0, .int .i64 0, .string ⟨#[]⟩, .int .i64 0] #[.int .i64 (withP p (invT (sideF f (!b)))).src, .int .i64 (withP p (invT (sideF f (!b)))).dst, .int .i64 (withP p (invT (sideF f (!b)))).proto, .int .i64 (withP p (invT (sideF f (!b)))).a, .int .i64 (withP p (invT (sideF f (!b)))).b, .int .i64 (withP p (invT (sideF f (!b)))).kind, .int .i64 (withP p (invT (sideF f (!b)))).flags, .int .i64 (withP p (invT (sideF f (!b)))).seq, .int .i64 (withP p (invT (sideF f (!b)))).ack, .string (withP p (invT (sideF f (!b)))).body, .int .i64 (withC p (invT (sideF f (!b))))] rfl rfl rfl (by kernel_rfl) (by kernel_rfl) (by kernel_rfl) rfl rfl (by decide) (by kernel_rfl) (by kernel_rfl) (by decide) hGR3.out (by kernel_rfl) (by kernel_rfl) (by first | kernel_rfl | simp [Value.oneCell']) (by kernel_rfl) ?stepsY_14 ?finY_14
  case stepsY_14 =>
    refine ⟨?_, ?_, ?_, ?_, ?_, ?_, trivial⟩
    · refine ⟨rfl, fun v W ρ hC kc kf ks ki kd => ?_⟩
      have t4 : ρ (.tmp 4) = .pointer (some ⟨w.heap.size + 1, 0, none⟩) := ki 4 (by decide)
      have hg := blk_later hGP3.out hC
      have c0 := blk_cell hg 0
      have c1 := blk_cell hg 1
      have c2 := blk_cell hg 2
      have c3 := blk_cell hg 3
      have c4 := blk_cell hg 4
      have c5 := blk_cell hg 5
      have c6 := blk_cell hg 6
      have c7 := blk_cell hg 7
      have c8 := blk_cell hg 8
      have c9 := blk_cell hg 9
      simp at c0 c1 c2 c3 c4 c5 c6 c7 c8 c9
      simp [execOp, go_sem, kc, t4, c0, c1, c2, c3, c4, c5, c6, c7, c8, c9]
      exact ⟨hC, Below.refl _ _, rfl⟩
    · refine ⟨rfl, fun v W ρ hC kc kf ks ki kd => ?_⟩
      have t7 : ρ (.tmp 7) = .pointer (some ⟨gK, 0, none⟩) := ki 7 (by decide)
      simp [execOp, go_sem, kc, t7]
      exact ⟨hC, Below.refl _ _, rfl⟩
    · refine ⟨rfl, fun v W ρ hC kc kf ks ki kd => ?_⟩
      have d1 : v 1 = .pointer (some ⟨gK, 0, none⟩) := by first | exact kd _ (mem0 rfl) rfl | exact kd _ (mem1 rfl) rfl | exact kd _ (mem2 rfl) rfl | exact kd _ (mem3 rfl) rfl | exact kd _ (mem4 rfl) rfl | exact kd _ (mem5 rfl) rfl | exact kd _ (Array.mem_of_getElem? (i := 6) rfl) rfl | exact kd _ (Array.mem_of_getElem? (i := 7) rfl) rfl
      have t22 : ρ (.tmp 22) = .pointer (some ⟨gK, 0, none⟩) := (ks 1 22 (by decide) rfl).trans d1
      simp only [execOp, t22, Sem.run_bind, loadAt_part (o := 0) [.int .i64 f.orig.proto, .int .i64 f.orig.src, .int .i64 f.orig.sport, .int .i64 f.orig.dst, .int .i64 f.orig.dport, .int .i64 f.orig.kind, .int .i64 f.back.proto, .int .i64 f.back.src, .int .i64 f.back.sport, .int .i64 f.back.dst, .int .i64 f.back.dport, .int .i64 f.back.kind] (blk_later hGK3.out hC) rfl Tryd.underlying50 rfl (by kernel_rfl), Result.andThen_ok, Sem.run_pure]
      exact ⟨hC, Below.refl _ _, rfl⟩
    · refine ⟨rfl, fun v W ρ hC kc kf ks ki kd => ?_⟩
      have t2 : ρ (.tmp 2) = .bool b := ki 2 (by decide)
      simp [execOp, go_sem, kc, t2]
      exact ⟨hC, Below.refl _ _, rfl⟩
    · refine ⟨rfl, fun v W ρ hC kc kf ks ki kd => ?_⟩
      have d2 : v 2 = .agg #[.int .i64 f.orig.proto, .int .i64 f.orig.src, .int .i64 f.orig.sport, .int .i64 f.orig.dst, .int .i64 f.orig.dport, .int .i64 f.orig.kind, .int .i64 f.back.proto, .int .i64 f.back.src, .int .i64 f.back.sport, .int .i64 f.back.dst, .int .i64 f.back.dport, .int .i64 f.back.kind] := by first | exact kd _ (mem0 rfl) rfl | exact kd _ (mem1 rfl) rfl | exact kd _ (mem2 rfl) rfl | exact kd _ (mem3 rfl) rfl | exact kd _ (mem4 rfl) rfl | exact kd _ (mem5 rfl) rfl | exact kd _ (Array.mem_of_getElem? (i := 6) rfl) rfl | exact kd _ (Array.mem_of_getElem? (i := 7) rfl) rfl
      have t23 : ρ (.tmp 23) = .agg #[.int .i64 f.orig.proto, .int .i64 f.orig.src, .int .i64 f.orig.sport, .int .i64 f.orig.dst, .int .i64 f.orig.dport, .int .i64 f.orig.kind, .int .i64 f.back.proto, .int .i64 f.back.src, .int .i64 f.back.sport, .int .i64 f.back.dst, .int .i64 f.back.dport, .int .i64 f.back.kind] := (ks 2 23 (by decide) rfl).trans d2
      have d3 : v 3 = .bool b := by first | exact kd _ (mem0 rfl) rfl | exact kd _ (mem1 rfl) rfl | exact kd _ (mem2 rfl) rfl | exact kd _ (mem3 rfl) rfl | exact kd _ (mem4 rfl) rfl | exact kd _ (mem5 rfl) rfl | exact kd _ (Array.mem_of_getElem? (i := 6) rfl) rfl | exact kd _ (Array.mem_of_getElem? (i := 7) rfl) rfl
      have t24 : ρ (.tmp 24) = .bool b := (ks 3 24 (by decide) rfl).trans d3
      simp [execOp, go_sem, kc, t23, t24, kf]
      exact Calls.mono (HG.out W) (fun e x h => ⟨_, h.1, hC.trans (h.2.mono hC.size), h.2, rfl⟩)
    · refine ⟨rfl, fun v W ρ hC kc kf ks ki kd => ?_⟩
      have d0 : v 0 = .agg #[.int .i64 p.src, .int .i64 p.dst, .int .i64 p.proto, .int .i64 p.a, .int .i64 p.b, .int .i64 p.kind, .int .i64 p.flags, .int .i64 p.seq, .int .i64 p.ack, .string p.body] := by first | exact kd _ (mem0 rfl) rfl | exact kd _ (mem1 rfl) rfl | exact kd _ (mem2 rfl) rfl | exact kd _ (mem3 rfl) rfl | exact kd _ (mem4 rfl) rfl | exact kd _ (mem5 rfl) rfl | exact kd _ (Array.mem_of_getElem? (i := 6) rfl) rfl | exact kd _ (Array.mem_of_getElem? (i := 7) rfl) rfl
      have t21 : ρ (.tmp 21) = .agg #[.int .i64 p.src, .int .i64 p.dst, .int .i64 p.proto, .int .i64 p.a, .int .i64 p.b, .int .i64 p.kind, .int .i64 p.flags, .int .i64 p.seq, .int .i64 p.ack, .string p.body] := (ks 0 21 (by decide) rfl).trans d0
      have d4 : v 4 = .agg #[.int .i64 (invT (sideF f (!b))).proto, .int .i64 (invT (sideF f (!b))).src, .int .i64 (invT (sideF f (!b))).sport, .int .i64 (invT (sideF f (!b))).dst, .int .i64 (invT (sideF f (!b))).dport, .int .i64 (invT (sideF f (!b))).kind] := by first | exact kd _ (mem0 rfl) rfl | exact kd _ (mem1 rfl) rfl | exact kd _ (mem2 rfl) rfl | exact kd _ (mem3 rfl) rfl | exact kd _ (mem4 rfl) rfl | exact kd _ (mem5 rfl) rfl | exact kd _ (Array.mem_of_getElem? (i := 6) rfl) rfl | exact kd _ (Array.mem_of_getElem? (i := 7) rfl) rfl
      have t25 : ρ (.tmp 25) = .agg #[.int .i64 (invT (sideF f (!b))).proto, .int .i64 (invT (sideF f (!b))).src, .int .i64 (invT (sideF f (!b))).sport, .int .i64 (invT (sideF f (!b))).dst, .int .i64 (invT (sideF f (!b))).dport, .int .i64 (invT (sideF f (!b))).kind] := (ks 4 25 (by decide) rfl).trans d4
      simp [execOp, go_sem, kc, t21, t25, kf]
      exact Calls.mono (HW.out W (hL3.out.trans (hC.mono hL3.out.size))) (fun e x h => ⟨_, h.1, hC.trans (h.2.mono hC.size), h.2, rfl⟩)
  intro vY_14 WY_14 hBY_14 hgY_14 hall
  simp [upto, Act.put]
  clear hall
  have hEY_14 := hidS (hL3.out.trans (hBY_14 w.heap.size (by omega)))
  have hcY_14 := loadVar_blk (P := Tryd.prog) hgY_14 Tryd.underlying31 rfl (by kernel_rfl)
  clear hBY_14 hgY_14 hL3 hGF3 hGP3 hGR3 hGK3
  go_wp2_with fail
  exact bodyPost_ret (v := .agg #[.int .i64 (withP p (invT (sideF f (!b)))).src, .int .i64 (withP p (invT (sideF f (!b)))).dst, .int .i64 (withP p (invT (sideF f (!b)))).proto, .int .i64 (withP p (invT (sideF f (!b)))).a, .int .i64 (withP p (invT (sideF f (!b)))).b, .int .i64 (withP p (invT (sideF f (!b)))).kind, .int .i64 (withP p (invT (sideF f (!b)))).flags, .int .i64 (withP p (invT (sideF f (!b)))).seq, .int .i64 (withP p (invT (sideF f (!b)))).ack, .string (withP p (invT (sideF f (!b)))).body, .int .i64 (withC p (invT (sideF f (!b))))]) (results_cell Tryd.results9 rfl hcY_14) rfl ⟨by rw [EA.out, EC.out], hEY_14.out⟩
end Go.Proofs.YtbhemimhmkgfiaaDoor
