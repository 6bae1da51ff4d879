/- Proved here: areUdp, flow, FlowRight of impl answer as the plain functions; all old memory stays (no conditions but those that stand there). -/
import Derived.Test.YtbhemimhmkgfiaaFlowI0
namespace Go.Proofs.Ytbhemimhmkgfiaa
open Go.ChangeShapes Go.WideShapes Go.ChangeAt Go.RowKit
set_option linter.unusedVariables false
set_option linter.unusedSimpArgs false
set_option maxRecDepth 100000

theorem areUdp_any (o b : Tp) (w : World) : Calls Try.prog 72 #[.agg #[.int .i64 o.proto, .int .i64 o.src, .int .i64 o.sport, .int .i64 o.dst, .int .i64 o.dport, .int .i64 o.kind, .int .i64 b.proto, .int .i64 b.src, .int .i64 b.sport, .int .i64 b.dst, .int .i64 b.dport, .int .i64 b.kind]] w fun e w' => e = .returned (.bool (o.proto == 17)) ∧ Below w.heap.size w w' := by
  have hGE0 : Hid ((w.alloc (.cells #[.int .i64 o.proto, .int .i64 o.src, .int .i64 o.sport, .int .i64 o.dst, .int .i64 o.dport, .int .i64 o.kind, .int .i64 b.proto, .int .i64 b.src, .int .i64 b.sport, .int .i64 b.dst, .int .i64 b.dport, .int .i64 b.kind] 49)).heap[w.heap.size]? = some (.cells #[.int .i64 o.proto, .int .i64 o.src, .int .i64 o.sport, .int .i64 o.dst, .int .i64 o.dport, .int .i64 o.kind, .int .i64 b.proto, .int .i64 b.src, .int .i64 b.sport, .int .i64 b.dst, .int .i64 b.dport, .int .i64 b.kind] 49)) := by
    show _ = _
    have := heap_newG w (.cells #[.int .i64 o.proto, .int .i64 o.src, .int .i64 o.sport, .int .i64 o.dst, .int .i64 o.dport, .int .i64 o.kind, .int .i64 b.proto, .int .i64 b.src, .int .i64 b.sport, .int .i64 b.dst, .int .i64 b.dport, .int .i64 b.kind] 49)
    simpa using this
  have hL0 := hidS ((Below.refl w.heap.size w).alloc (Nat.le_refl _) (.cells #[.int .i64 o.proto, .int .i64 o.src, .int .i64 o.sport, .int .i64 o.dst, .int .i64 o.dport, .int .i64 o.kind, .int .i64 b.proto, .int .i64 b.src, .int .i64 b.sport, .int .i64 b.dst, .int .i64 b.dport, .int .i64 b.kind] 49))
  go_enter Try.func72, Try.ntmps72
  go_upto_region 1 with fail
  generalize (w.alloc (.cells #[.int .i64 o.proto, .int .i64 o.src, .int .i64 o.sport, .int .i64 o.dst, .int .i64 o.dport, .int .i64 o.kind, .int .i64 b.proto, .int .i64 b.src, .int .i64 b.sport, .int .i64 b.dst, .int .i64 b.dport, .int .i64 b.kind] 49)) = w0 at hGE0 hL0 ⊢
  have cE0 := blk_cell hGE0.out 0
  have cE1 := blk_cell hGE0.out 1
  have cE2 := blk_cell hGE0.out 2
  have cE3 := blk_cell hGE0.out 3
  have cE4 := blk_cell hGE0.out 4
  have cE5 := blk_cell hGE0.out 5
  have cE6 := blk_cell hGE0.out 6
  have cE7 := blk_cell hGE0.out 7
  have cE8 := blk_cell hGE0.out 8
  have cE9 := blk_cell hGE0.out 9
  have cE10 := blk_cell hGE0.out 10
  have cE11 := blk_cell hGE0.out 11
  simp at cE0 cE1 cE2 cE3 cE4 cE5 cE6 cE7 cE8 cE9 cE10 cE11
  go_wp2_with fail
  go_ret
  exact ⟨rfl, hL0.out⟩
set_option maxHeartbeats 4000000 in
theorem flowOf_any (f : Fl) (w : World) : Calls Try.prog 32 #[.agg #[.int .i64 f.orig.proto, .int .i64 f.orig.src, .int .i64 f.orig.sport, .int .i64 f.orig.dst, .int .i64 f.orig.dport, .int .i64 f.orig.kind, .int .i64 f.back.proto, .int .i64 f.back.src, .int .i64 f.back.sport, .int .i64 f.back.dst, .int .i64 f.back.dport, .int .i64 f.back.kind, .int .i64 f.state, .bool f.seen, .bool f.sure, .int .i64 f.till, .int .i64 f.count]] w fun e w' => e = .returned (.agg #[.int .i64 f.orig.proto, .int .i64 f.orig.src, .int .i64 f.orig.sport, .int .i64 f.orig.dst, .int .i64 f.orig.dport, .int .i64 f.orig.kind, .int .i64 f.back.proto, .int .i64 f.back.src, .int .i64 f.back.sport, .int .i64 f.back.dst, .int .i64 f.back.dport, .int .i64 f.back.kind, .int .i64 f.state, .bool f.seen, .bool f.sure, .int .i64 f.till, .int .i64 f.count]) ∧ Below w.heap.size w w' := by
  have hGF0 : Hid (((w.alloc (.cells #[.int .i64 f.orig.proto, .int .i64 f.orig.src, .int .i64 f.orig.sport, .int .i64 f.orig.dst, .int .i64 f.orig.dport, .int .i64 f.orig.kind, .int .i64 f.back.proto, .int .i64 f.back.src, .int .i64 f.back.sport, .int .i64 f.back.dst, .int .i64 f.back.dport, .int .i64 f.back.kind, .int .i64 f.state, .bool f.seen, .bool f.sure, .int .i64 f.till, .int .i64 f.count] 51)).alloc (.cells #[.int .i64 0, .int .i64 0, .int .i64 0, .int .i64 0, .int .i64 0, .int .i64 0, .int .i64 0, .int .i64 0, .int .i64 0, .int .i64 0, .int .i64 0, .int .i64 0, .int .i64 0, .bool false, .bool false, .int .i64 0, .int .i64 0] 29)).heap[w.heap.size]? = some (.cells #[.int .i64 f.orig.proto, .int .i64 f.orig.src, .int .i64 f.orig.sport, .int .i64 f.orig.dst, .int .i64 f.orig.dport, .int .i64 f.orig.kind, .int .i64 f.back.proto, .int .i64 f.back.src, .int .i64 f.back.sport, .int .i64 f.back.dst, .int .i64 f.back.dport, .int .i64 f.back.kind, .int .i64 f.state, .bool f.seen, .bool f.sure, .int .i64 f.till, .int .i64 f.count] 51)) := by
    show _ = _
    have := blk_alloc (heap_newG w (.cells #[.int .i64 f.orig.proto, .int .i64 f.orig.src, .int .i64 f.orig.sport, .int .i64 f.orig.dst, .int .i64 f.orig.dport, .int .i64 f.orig.kind, .int .i64 f.back.proto, .int .i64 f.back.src, .int .i64 f.back.sport, .int .i64 f.back.dst, .int .i64 f.back.dport, .int .i64 f.back.kind, .int .i64 f.state, .bool f.seen, .bool f.sure, .int .i64 f.till, .int .i64 f.count] 51)) (.cells #[.int .i64 0, .int .i64 0, .int .i64 0, .int .i64 0, .int .i64 0, .int .i64 0, .int .i64 0, .int .i64 0, .int .i64 0, .int .i64 0, .int .i64 0, .int .i64 0, .int .i64 0, .bool false, .bool false, .int .i64 0, .int .i64 0] 29)
    simpa using this
  have hGR0 : Hid (((w.alloc (.cells #[.int .i64 f.orig.proto, .int .i64 f.orig.src, .int .i64 f.orig.sport, .int .i64 f.orig.dst, .int .i64 f.orig.dport, .int .i64 f.orig.kind, .int .i64 f.back.proto, .int .i64 f.back.src, .int .i64 f.back.sport, .int .i64 f.back.dst, .int .i64 f.back.dport, .int .i64 f.back.kind, .int .i64 f.state, .bool f.seen, .bool f.sure, .int .i64 f.till, .int .i64 f.count] 51)).alloc (.cells #[.int .i64 0, .int .i64 0, .int .i64 0, .int .i64 0, .int .i64 0, .int .i64 0, .int .i64 0, .int .i64 0, .int .i64 0, .int .i64 0, .int .i64 0, .int .i64 0, .int .i64 0, .bool false, .bool false, .int .i64 0, .int .i64 0] 29)).heap[w.heap.size + 1]? = some (.cells #[.int .i64 0, .int .i64 0, .int .i64 0, .int .i64 0, .int .i64 0, .int .i64 0, .int .i64 0, .int .i64 0, .int .i64 0, .int .i64 0, .int .i64 0, .int .i64 0, .int .i64 0, .bool false, .bool false, .int .i64 0, .int .i64 0] 29)) := by
    show _ = _
    have := heap_newG (w.alloc (.cells #[.int .i64 f.orig.proto, .int .i64 f.orig.src, .int .i64 f.orig.sport, .int .i64 f.orig.dst, .int .i64 f.orig.dport, .int .i64 f.orig.kind, .int .i64 f.back.proto, .int .i64 f.back.src, .int .i64 f.back.sport, .int .i64 f.back.dst, .int .i64 f.back.dport, .int .i64 f.back.kind, .int .i64 f.state, .bool f.seen, .bool f.sure, .int .i64 f.till, .int .i64 f.count] 51)) (.cells #[.int .i64 0, .int .i64 0, .int .i64 0, .int .i64 0, .int .i64 0, .int .i64 0, .int .i64 0, .int .i64 0, .int .i64 0, .int .i64 0, .int .i64 0, .int .i64 0, .int .i64 0, .bool false, .bool false, .int .i64 0, .int .i64 0] 29)
    simpa using this
  have hL0 := hidS (((Below.refl w.heap.size w).alloc (Nat.le_refl _) (.cells #[.int .i64 f.orig.proto, .int .i64 f.orig.src, .int .i64 f.orig.sport, .int .i64 f.orig.dst, .int .i64 f.orig.dport, .int .i64 f.orig.kind, .int .i64 f.back.proto, .int .i64 f.back.src, .int .i64 f.back.sport, .int .i64 f.back.dst, .int .i64 f.back.dport, .int .i64 f.back.kind, .int .i64 f.state, .bool f.seen, .bool f.sure, .int .i64 f.till, .int .i64 f.count] 51)).alloc (by simp) (.cells #[.int .i64 0, .int .i64 0, .int .i64 0, .int .i64 0, .int .i64 0, .int .i64 0, .int .i64 0, .int .i64 0, .int .i64 0, .int .i64 0, .int .i64 0, .int .i64 0, .int .i64 0, .bool false, .bool false, .int .i64 0, .int .i64 0] 29))
  go_enter Try.func32, Try.ntmps32
  go_upto_region 1 with fail
  generalize ((w.alloc (.cells #[.int .i64 f.orig.proto, .int .i64 f.orig.src, .int .i64 f.orig.sport, .int .i64 f.orig.dst, .int .i64 f.orig.dport, .int .i64 f.orig.kind, .int .i64 f.back.proto, .int .i64 f.back.src, .int .i64 f.back.sport, .int .i64 f.back.dst, .int .i64 f.back.dport, .int .i64 f.back.kind, .int .i64 f.state, .bool f.seen, .bool f.sure, .int .i64 f.till, .int .i64 f.count] 51)).alloc (.cells #[.int .i64 0, .int .i64 0, .int .i64 0, .int .i64 0, .int .i64 0, .int .i64 0, .int .i64 0, .int .i64 0, .int .i64 0, .int .i64 0, .int .i64 0, .int .i64 0, .int .i64 0, .bool false, .bool false, .int .i64 0, .int .i64 0] 29)) = w0 at hGF0 hGR0 hL0 ⊢
  refine plain_into 17 _ [.is (.pointer (some ⟨w.heap.size, 0, none⟩)), .is (.pointer (some ⟨w.heap.size, 0, none⟩)), .is (.agg #[.int .i64 f.orig.proto, .int .i64 f.orig.src, .int .i64 f.orig.sport, .int .i64 f.orig.dst, .int .i64 f.orig.dport, .int .i64 f.orig.kind]), .is (.pointer (some ⟨w.heap.size, 0, none⟩)), .is (.pointer (some ⟨w.heap.size, 6, none⟩)), .is (.agg #[.int .i64 f.back.proto, .int .i64 f.back.src, .int .i64 f.back.sport, .int .i64 f.back.dst, .int .i64 f.back.dport, .int .i64 f.back.kind]), .is (.pointer (some ⟨w.heap.size, 12, none⟩)), .is (.int .i64 f.state), .is (.pointer (some ⟨w.heap.size, 13, none⟩)), .is (.bool f.seen), .is (.pointer (some ⟨w.heap.size, 14, none⟩)), .is (.bool f.sure), .is (.pointer (some ⟨w.heap.size, 15, none⟩)), .is (.int .i64 f.till), .is (.pointer (some ⟨w.heap.size, 16, none⟩)), .is (.int .i64 f.count), .is (.agg #[.int .i64 f.orig.proto, .int .i64 f.orig.src, .int .i64 f.orig.sport, .int .i64 f.orig.dst, .int .i64 f.orig.dport, .int .i64 f.orig.kind, .int .i64 f.back.proto, .int .i64 f.back.src, .int .i64 f.back.sport, .int .i64 f.back.dst, .int .i64 f.back.dport, .int .i64 f.back.kind, .int .i64 f.state, .bool f.seen, .bool f.sure, .int .i64 f.till, .int .i64 f.count])] 16 2 19 29 29 (w.heap.size + 1) #[.int .i64 0, .int .i64 0, .int .i64 0, .int .i64 0, .int .i64 0, .int .i64 0, .int .i64 0, .int .i64 0, .int .i64 0, .int .i64 0, .int .i64 0, .int .i64 0, .int .i64 0, .bool false, .bool false, .int .i64 0, .int .i64 0] #[.int .i64 f.orig.proto, .int .i64 f.orig.src, .int .i64 f.orig.sport, .int .i64 f.orig.dst, .int .i64 f.orig.dport, .int .i64 f.orig.kind, .int .i64 f.back.proto, .int .i64 f.back.src, .int .i64 f.back.sport, .int .i64 f.back.dst, .int .i64 f.back.dport, .int .i64 f.back.kind, .int .i64 f.state, .bool f.seen, .bool f.sure, .int .i64 f.till, .int .i64 f.count] rfl rfl rfl (by kernel_rfl) (by kernel_rfl) (by kernel_rfl) rfl rfl (by decide) (by kernel_rfl) (by kernel_rfl) (by decide) hGR0.out (by kernel_rfl) (by kernel_rfl) (by first | kernel_rfl | simp [Value.oneCell']) (by kernel_rfl) ?stepsA_2 ?finA_2
  case stepsA_2 =>
    refine ⟨?_, ?_, ?_, ?_, ?_, ?_, ?_, ?_, ?_, ?_, ?_, ?_, ?_, ?_, ?_, ?_, ?_, trivial⟩
    · refine ⟨rfl, fun v W ρ hC kc kf ks ki kd => ?_⟩
      have t1 : ρ (.tmp 1) = .pointer (some ⟨w.heap.size, 0, none⟩) := ki 1 (by decide)
      simp [execOp, go_sem, kc, t1]
      exact ⟨hC, Below.refl _ _, rfl⟩
    · refine ⟨rfl, fun v W ρ hC kc kf ks ki kd => ?_⟩
      have d0 : v 0 = .pointer (some ⟨w.heap.size, 0, none⟩) := by first | exact kd _ (mem0 rfl) rfl | exact kd _ (mem1 rfl) rfl | exact kd _ (mem2 rfl) rfl | exact kd _ (mem3 rfl) rfl | exact kd _ (mem4 rfl) rfl | exact kd _ (mem5 rfl) rfl | exact kd _ (Array.mem_of_getElem? (i := 6) rfl) rfl | exact kd _ (Array.mem_of_getElem? (i := 7) rfl) rfl
      have t3 : ρ (.tmp 3) = .pointer (some ⟨w.heap.size, 0, none⟩) := (ks 0 3 (by decide) rfl).trans d0
      simp [execOp, go_sem, kc, t3]
      exact ⟨hC, Below.refl _ _, rfl⟩
    · refine ⟨rfl, fun v W ρ hC kc kf ks ki kd => ?_⟩
      have d1 : v 1 = .pointer (some ⟨w.heap.size, 0, none⟩) := by first | exact kd _ (mem0 rfl) rfl | exact kd _ (mem1 rfl) rfl | exact kd _ (mem2 rfl) rfl | exact kd _ (mem3 rfl) rfl | exact kd _ (mem4 rfl) rfl | exact kd _ (mem5 rfl) rfl | exact kd _ (Array.mem_of_getElem? (i := 6) rfl) rfl | exact kd _ (Array.mem_of_getElem? (i := 7) rfl) rfl
      have t4 : ρ (.tmp 4) = .pointer (some ⟨w.heap.size, 0, none⟩) := (ks 1 4 (by decide) rfl).trans d1
      have hg := blk_later hGF0.out hC
      have c0 := blk_cell hg 0
      have c1 := blk_cell hg 1
      have c2 := blk_cell hg 2
      have c3 := blk_cell hg 3
      have c4 := blk_cell hg 4
      have c5 := blk_cell hg 5
      simp at c0 c1 c2 c3 c4 c5
      simp [execOp, go_sem, kc, t4, c0, c1, c2, c3, c4, c5]
      exact ⟨hC, Below.refl _ _, rfl⟩
    · refine ⟨rfl, fun v W ρ hC kc kf ks ki kd => ?_⟩
      have t1 : ρ (.tmp 1) = .pointer (some ⟨w.heap.size, 0, none⟩) := ki 1 (by decide)
      simp [execOp, go_sem, kc, t1]
      exact ⟨hC, Below.refl _ _, rfl⟩
    · refine ⟨rfl, fun v W ρ hC kc kf ks ki kd => ?_⟩
      have d3 : v 3 = .pointer (some ⟨w.heap.size, 0, none⟩) := by first | exact kd _ (mem0 rfl) rfl | exact kd _ (mem1 rfl) rfl | exact kd _ (mem2 rfl) rfl | exact kd _ (mem3 rfl) rfl | exact kd _ (mem4 rfl) rfl | exact kd _ (mem5 rfl) rfl | exact kd _ (Array.mem_of_getElem? (i := 6) rfl) rfl | exact kd _ (Array.mem_of_getElem? (i := 7) rfl) rfl
      have t6 : ρ (.tmp 6) = .pointer (some ⟨w.heap.size, 0, none⟩) := (ks 3 6 (by decide) rfl).trans d3
      simp [execOp, go_sem, kc, t6]
      exact ⟨hC, Below.refl _ _, rfl⟩
    · refine ⟨rfl, fun v W ρ hC kc kf ks ki kd => ?_⟩
      have d4 : v 4 = .pointer (some ⟨w.heap.size, 6, none⟩) := by first | exact kd _ (mem0 rfl) rfl | exact kd _ (mem1 rfl) rfl | exact kd _ (mem2 rfl) rfl | exact kd _ (mem3 rfl) rfl | exact kd _ (mem4 rfl) rfl | exact kd _ (mem5 rfl) rfl | exact kd _ (Array.mem_of_getElem? (i := 6) rfl) rfl | exact kd _ (Array.mem_of_getElem? (i := 7) rfl) rfl
      have t7 : ρ (.tmp 7) = .pointer (some ⟨w.heap.size, 6, none⟩) := (ks 4 7 (by decide) rfl).trans d4
      have hg := blk_later hGF0.out hC
      have c6 := blk_cell hg 6
      have c7 := blk_cell hg 7
      have c8 := blk_cell hg 8
      have c9 := blk_cell hg 9
      have c10 := blk_cell hg 10
      have c11 := blk_cell hg 11
      simp at c6 c7 c8 c9 c10 c11
      simp [execOp, go_sem, kc, t7, c6, c7, c8, c9, c10, c11]
      exact ⟨hC, Below.refl _ _, rfl⟩
    · refine ⟨rfl, fun v W ρ hC kc kf ks ki kd => ?_⟩
      have t1 : ρ (.tmp 1) = .pointer (some ⟨w.heap.size, 0, none⟩) := ki 1 (by decide)
      simp [execOp, go_sem, kc, t1]
      exact ⟨hC, Below.refl _ _, rfl⟩
    · refine ⟨rfl, fun v W ρ hC kc kf ks ki kd => ?_⟩
      have d6 : v 6 = .pointer (some ⟨w.heap.size, 12, none⟩) := by first | exact kd _ (mem0 rfl) rfl | exact kd _ (mem1 rfl) rfl | exact kd _ (mem2 rfl) rfl | exact kd _ (mem3 rfl) rfl | exact kd _ (mem4 rfl) rfl | exact kd _ (mem5 rfl) rfl | exact kd _ (Array.mem_of_getElem? (i := 6) rfl) rfl | exact kd _ (Array.mem_of_getElem? (i := 7) rfl) rfl
      have t9 : ρ (.tmp 9) = .pointer (some ⟨w.heap.size, 12, none⟩) := (ks 6 9 (by decide) rfl).trans d6
      have hg := blk_later hGF0.out hC
      have c12 := blk_cell hg 12
      simp at c12
      simp [execOp, go_sem, kc, t9, c12]
      exact ⟨hC, Below.refl _ _, rfl⟩
    · refine ⟨rfl, fun v W ρ hC kc kf ks ki kd => ?_⟩
      have t1 : ρ (.tmp 1) = .pointer (some ⟨w.heap.size, 0, none⟩) := ki 1 (by decide)
      simp [execOp, go_sem, kc, t1]
      exact ⟨hC, Below.refl _ _, rfl⟩
    · refine ⟨rfl, fun v W ρ hC kc kf ks ki kd => ?_⟩
      have d8 : v 8 = .pointer (some ⟨w.heap.size, 13, none⟩) := by first | exact kd _ (mem0 rfl) rfl | exact kd _ (mem1 rfl) rfl | exact kd _ (mem2 rfl) rfl | exact kd _ (mem3 rfl) rfl | exact kd _ (mem4 rfl) rfl | exact kd _ (mem5 rfl) rfl | exact kd _ (Array.mem_of_getElem? (i := 6) rfl) rfl | exact kd _ (Array.mem_of_getElem? (i := 7) rfl) rfl
      have t11 : ρ (.tmp 11) = .pointer (some ⟨w.heap.size, 13, none⟩) := (ks 8 11 (by decide) rfl).trans d8
      have hg := blk_later hGF0.out hC
      have c13 := blk_cell hg 13
      simp at c13
      simp [execOp, go_sem, kc, t11, c13]
      exact ⟨hC, Below.refl _ _, rfl⟩
    · refine ⟨rfl, fun v W ρ hC kc kf ks ki kd => ?_⟩
      have t1 : ρ (.tmp 1) = .pointer (some ⟨w.heap.size, 0, none⟩) := ki 1 (by decide)
      simp [execOp, go_sem, kc, t1]
      exact ⟨hC, Below.refl _ _, rfl⟩
    · refine ⟨rfl, fun v W ρ hC kc kf ks ki kd => ?_⟩
      have d10 : v 10 = .pointer (some ⟨w.heap.size, 14, none⟩) := by first | exact kd _ (mem0 rfl) rfl | exact kd _ (mem1 rfl) rfl | exact kd _ (mem2 rfl) rfl | exact kd _ (mem3 rfl) rfl | exact kd _ (mem4 rfl) rfl | exact kd _ (mem5 rfl) rfl | exact kd _ (Array.mem_of_getElem? (i := 6) rfl) rfl | exact kd _ (Array.mem_of_getElem? (i := 7) rfl) rfl
      have t13 : ρ (.tmp 13) = .pointer (some ⟨w.heap.size, 14, none⟩) := (ks 10 13 (by decide) rfl).trans d10
      have hg := blk_later hGF0.out hC
      have c14 := blk_cell hg 14
      simp at c14
      simp [execOp, go_sem, kc, t13, c14]
      exact ⟨hC, Below.refl _ _, rfl⟩
    · refine ⟨rfl, fun v W ρ hC kc kf ks ki kd => ?_⟩
      have t1 : ρ (.tmp 1) = .pointer (some ⟨w.heap.size, 0, none⟩) := ki 1 (by decide)
      simp [execOp, go_sem, kc, t1]
      exact ⟨hC, Below.refl _ _, rfl⟩
    · refine ⟨rfl, fun v W ρ hC kc kf ks ki kd => ?_⟩
      have d12 : v 12 = .pointer (some ⟨w.heap.size, 15, none⟩) := by first | exact kd _ (mem0 rfl) rfl | exact kd _ (mem1 rfl) rfl | exact kd _ (mem2 rfl) rfl | exact kd _ (mem3 rfl) rfl | exact kd _ (mem4 rfl) rfl | exact kd _ (mem5 rfl) rfl | exact kd _ (Array.mem_of_getElem? (i := 6) rfl) rfl | exact kd _ (Array.mem_of_getElem? (i := 7) rfl) rfl
      have t15 : ρ (.tmp 15) = .pointer (some ⟨w.heap.size, 15, none⟩) := (ks 12 15 (by decide) rfl).trans d12
      have hg := blk_later hGF0.out hC
      have c15 := blk_cell hg 15
      simp at c15
      simp [execOp, go_sem, kc, t15, c15]
      exact ⟨hC, Below.refl _ _, rfl⟩
    · refine ⟨rfl, fun v W ρ hC kc kf ks ki kd => ?_⟩
      have t1 : ρ (.tmp 1) = .pointer (some ⟨w.heap.size, 0, none⟩) := ki 1 (by decide)
      simp [execOp, go_sem, kc, t1]
      exact ⟨hC, Below.refl _ _, rfl⟩
    · refine ⟨rfl, fun v W ρ hC kc kf ks ki kd => ?_⟩
      have d14 : v 14 = .pointer (some ⟨w.heap.size, 16, none⟩) := by first | exact kd _ (mem0 rfl) rfl | exact kd _ (mem1 rfl) rfl | exact kd _ (mem2 rfl) rfl | exact kd _ (mem3 rfl) rfl | exact kd _ (mem4 rfl) rfl | exact kd _ (mem5 rfl) rfl | exact kd _ (Array.mem_of_getElem? (i := 6) rfl) rfl | exact kd _ (Array.mem_of_getElem? (i := 7) rfl) rfl
      have t17 : ρ (.tmp 17) = .pointer (some ⟨w.heap.size, 16, none⟩) := (ks 14 17 (by decide) rfl).trans d14
      have hg := blk_later hGF0.out hC
      have c16 := blk_cell hg 16
      simp at c16
      simp [execOp, go_sem, kc, t17, c16]
      exact ⟨hC, Below.refl _ _, rfl⟩
    · refine ⟨rfl, fun v W ρ hC kc kf ks ki kd => ?_⟩
      have d2 : v 2 = .agg #[.int .i64 f.orig.proto, .int .i64 f.orig.src, .int .i64 f.orig.sport, .int .i64 f.orig.dst, .int .i64 f.orig.dport, .int .i64 f.orig.kind] := by first | exact kd _ (mem0 rfl) rfl | exact kd _ (mem1 rfl) rfl | exact kd _ (mem2 rfl) rfl | exact kd _ (mem3 rfl) rfl | exact kd _ (mem4 rfl) rfl | exact kd _ (mem5 rfl) rfl | exact kd _ (Array.mem_of_getElem? (i := 6) rfl) rfl | exact kd _ (Array.mem_of_getElem? (i := 7) rfl) rfl
      have t5 : ρ (.tmp 5) = .agg #[.int .i64 f.orig.proto, .int .i64 f.orig.src, .int .i64 f.orig.sport, .int .i64 f.orig.dst, .int .i64 f.orig.dport, .int .i64 f.orig.kind] := (ks 2 5 (by decide) rfl).trans d2
      have d5 : v 5 = .agg #[.int .i64 f.back.proto, .int .i64 f.back.src, .int .i64 f.back.sport, .int .i64 f.back.dst, .int .i64 f.back.dport, .int .i64 f.back.kind] := by first | exact kd _ (mem0 rfl) rfl | exact kd _ (mem1 rfl) rfl | exact kd _ (mem2 rfl) rfl | exact kd _ (mem3 rfl) rfl | exact kd _ (mem4 rfl) rfl | exact kd _ (mem5 rfl) rfl | exact kd _ (Array.mem_of_getElem? (i := 6) rfl) rfl | exact kd _ (Array.mem_of_getElem? (i := 7) rfl) rfl
      have t8 : ρ (.tmp 8) = .agg #[.int .i64 f.back.proto, .int .i64 f.back.src, .int .i64 f.back.sport, .int .i64 f.back.dst, .int .i64 f.back.dport, .int .i64 f.back.kind] := (ks 5 8 (by decide) rfl).trans d5
      have d7 : v 7 = .int .i64 f.state := by first | exact kd _ (mem0 rfl) rfl | exact kd _ (mem1 rfl) rfl | exact kd _ (mem2 rfl) rfl | exact kd _ (mem3 rfl) rfl | exact kd _ (mem4 rfl) rfl | exact kd _ (mem5 rfl) rfl | exact kd _ (Array.mem_of_getElem? (i := 6) rfl) rfl | exact kd _ (Array.mem_of_getElem? (i := 7) rfl) rfl
      have t10 : ρ (.tmp 10) = .int .i64 f.state := (ks 7 10 (by decide) rfl).trans d7
      have d9 : v 9 = .bool f.seen := by first | exact kd _ (mem0 rfl) rfl | exact kd _ (mem1 rfl) rfl | exact kd _ (mem2 rfl) rfl | exact kd _ (mem3 rfl) rfl | exact kd _ (mem4 rfl) rfl | exact kd _ (mem5 rfl) rfl | exact kd _ (Array.mem_of_getElem? (i := 6) rfl) rfl | exact kd _ (Array.mem_of_getElem? (i := 7) rfl) rfl
      have t12 : ρ (.tmp 12) = .bool f.seen := (ks 9 12 (by decide) rfl).trans d9
      have d11 : v 11 = .bool f.sure := by first | exact kd _ (mem0 rfl) rfl | exact kd _ (mem1 rfl) rfl | exact kd _ (mem2 rfl) rfl | exact kd _ (mem3 rfl) rfl | exact kd _ (mem4 rfl) rfl | exact kd _ (mem5 rfl) rfl | exact kd _ (Array.mem_of_getElem? (i := 6) rfl) rfl | exact kd _ (Array.mem_of_getElem? (i := 7) rfl) rfl
      have t14 : ρ (.tmp 14) = .bool f.sure := (ks 11 14 (by decide) rfl).trans d11
      have d13 : v 13 = .int .i64 f.till := by first | exact kd _ (mem0 rfl) rfl | exact kd _ (mem1 rfl) rfl | exact kd _ (mem2 rfl) rfl | exact kd _ (mem3 rfl) rfl | exact kd _ (mem4 rfl) rfl | exact kd _ (mem5 rfl) rfl | exact kd _ (Array.mem_of_getElem? (i := 6) rfl) rfl | exact kd _ (Array.mem_of_getElem? (i := 7) rfl) rfl
      have t16 : ρ (.tmp 16) = .int .i64 f.till := (ks 13 16 (by decide) rfl).trans d13
      have d15 : v 15 = .int .i64 f.count := by first | exact kd _ (mem0 rfl) rfl | exact kd _ (mem1 rfl) rfl | exact kd _ (mem2 rfl) rfl | exact kd _ (mem3 rfl) rfl | exact kd _ (mem4 rfl) rfl | exact kd _ (mem5 rfl) rfl | exact kd _ (Array.mem_of_getElem? (i := 6) rfl) rfl | exact kd _ (Array.mem_of_getElem? (i := 7) rfl) rfl
      have t18 : ρ (.tmp 18) = .int .i64 f.count := (ks 15 18 (by decide) rfl).trans d15
      simp [execOp, go_sem, kc, t5, t8, t10, t12, t14, t16, t18]
      exact ⟨hC, Below.refl _ _, rfl⟩
  intro vA_2 WA_2 hBA_2 hgA_2 hall
  simp [upto, Act.put]
  clear hall
  have hEA_2 := hidS (hL0.out.trans (hBA_2 w.heap.size (by omega)))
  have hcA_2 := loadVar_blk (P := Try.prog) hgA_2 Try.underlying29 rfl (by kernel_rfl)
  clear hBA_2 hgA_2 hL0 hGF0 hGR0
  go_wp2_with fail
  exact bodyPost_ret (v := .agg #[.int .i64 f.orig.proto, .int .i64 f.orig.src, .int .i64 f.orig.sport, .int .i64 f.orig.dst, .int .i64 f.orig.dport, .int .i64 f.orig.kind, .int .i64 f.back.proto, .int .i64 f.back.src, .int .i64 f.back.sport, .int .i64 f.back.dst, .int .i64 f.back.dport, .int .i64 f.back.kind, .int .i64 f.state, .bool f.seen, .bool f.sure, .int .i64 f.till, .int .i64 f.count]) (results_cell Try.results32 rfl hcA_2) rfl ⟨rfl, hEA_2.out⟩
set_option maxHeartbeats 4000000 in
theorem implFR_any (f : Fl) (w : World) : Calls Try.prog 8 #[.agg #[.int .i64 f.orig.proto, .int .i64 f.orig.src, .int .i64 f.orig.sport, .int .i64 f.orig.dst, .int .i64 f.orig.dport, .int .i64 f.orig.kind, .int .i64 f.back.proto, .int .i64 f.back.src, .int .i64 f.back.sport, .int .i64 f.back.dst, .int .i64 f.back.dport, .int .i64 f.back.kind, .int .i64 f.state, .bool f.seen, .bool f.sure, .int .i64 f.till, .int .i64 f.count]] w fun e w' => e = .returned (.bool (rightF f)) ∧ Below w.heap.size w w' := by
  have HT := hidS (fun W => talkOf_any f W)
  have HR := hidS (fun W => isRight_any f W)
  have hGF0 : Hid ((w.alloc (.cells #[.int .i64 f.orig.proto, .int .i64 f.orig.src, .int .i64 f.orig.sport, .int .i64 f.orig.dst, .int .i64 f.orig.dport, .int .i64 f.orig.kind, .int .i64 f.back.proto, .int .i64 f.back.src, .int .i64 f.back.sport, .int .i64 f.back.dst, .int .i64 f.back.dport, .int .i64 f.back.kind, .int .i64 f.state, .bool f.seen, .bool f.sure, .int .i64 f.till, .int .i64 f.count] 29)).heap[w.heap.size]? = some (.cells #[.int .i64 f.orig.proto, .int .i64 f.orig.src, .int .i64 f.orig.sport, .int .i64 f.orig.dst, .int .i64 f.orig.dport, .int .i64 f.orig.kind, .int .i64 f.back.proto, .int .i64 f.back.src, .int .i64 f.back.sport, .int .i64 f.back.dst, .int .i64 f.back.dport, .int .i64 f.back.kind, .int .i64 f.state, .bool f.seen, .bool f.sure, .int .i64 f.till, .int .i64 f.count] 29)) := by
    show _ = _
    have := heap_newG w (.cells #[.int .i64 f.orig.proto, .int .i64 f.orig.src, .int .i64 f.orig.sport, .int .i64 f.orig.dst, .int .i64 f.orig.dport, .int .i64 f.orig.kind, .int .i64 f.back.proto, .int .i64 f.back.src, .int .i64 f.back.sport, .int .i64 f.back.dst, .int .i64 f.back.dport, .int .i64 f.back.kind, .int .i64 f.state, .bool f.seen, .bool f.sure, .int .i64 f.till, .int .i64 f.count] 29)
    simpa using this
  have hL0 := hidS ((Below.refl w.heap.size w).alloc (Nat.le_refl _) (.cells #[.int .i64 f.orig.proto, .int .i64 f.orig.src, .int .i64 f.orig.sport, .int .i64 f.orig.dst, .int .i64 f.orig.dport, .int .i64 f.orig.kind, .int .i64 f.back.proto, .int .i64 f.back.src, .int .i64 f.back.sport, .int .i64 f.back.dst, .int .i64 f.back.dport, .int .i64 f.back.kind, .int .i64 f.state, .bool f.seen, .bool f.sure, .int .i64 f.till, .int .i64 f.count] 29))
  go_enter Try.func8, Try.ntmps8
  go_upto_region 1 with fail
  generalize (w.alloc (.cells #[.int .i64 f.orig.proto, .int .i64 f.orig.src, .int .i64 f.orig.sport, .int .i64 f.orig.dst, .int .i64 f.orig.dport, .int .i64 f.orig.kind, .int .i64 f.back.proto, .int .i64 f.back.src, .int .i64 f.back.sport, .int .i64 f.back.dst, .int .i64 f.back.dport, .int .i64 f.back.kind, .int .i64 f.state, .bool f.seen, .bool f.sure, .int .i64 f.till, .int .i64 f.count] 29)) = w0 at hGF0 hL0 ⊢
  go_wp2_with (first | refine wpList_load_blk 29 (.tmp 1) rfl rfl rfl hGF0.out Try.underlying29 rfl (by kernel_rfl) ?_)
  refine (HT.out _).mono ?_
  rintro _ w1 ⟨rfl, hb1⟩
  have hGF1 := hidS (blk_later hGF0.out hb1)
  have hL1 := hidS (hL0.out.trans (hb1.mono hL0.out.size))
  clear hb1 hL0 hGF0
  go_wp2_with fail
  refine (HR.out _).mono ?_
  rintro _ w2 ⟨rfl, hb2⟩
  have hGF2 := hidS (blk_later hGF1.out hb2)
  have hL2 := hidS (hL1.out.trans (hb2.mono hL1.out.size))
  clear hb2 hL1 hGF1
  go_wp2_with fail
  go_ret
  exact ⟨rfl, hL2.out⟩
end Go.Proofs.Ytbhemimhmkgfiaa
