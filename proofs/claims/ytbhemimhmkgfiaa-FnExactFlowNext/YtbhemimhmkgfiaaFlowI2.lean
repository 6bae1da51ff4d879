/- Proved here: stateAfter, isAssuredBy, life, counted, ledTo of impl's talk, and mayGoAs, answer as the plain functions; all old memory stays (no conditions but those that stand there). -/
import Derived.Test.YtbhemimhmkgfiaaFlowI1
import Derived.Test.YtbhemimhmkgfiaaFlowI2A
import Derived.Test.YtbhemimhmkgfiaaAll23
import Derived.Test.YtbhemimhmkgfiaaTcpI2
import Derived.Test.YtbhemimhmkgfiaaAll20
namespace Go.Proofs.Ytbhemimhmkgfiaa
open Go.ChangeShapes Go.WideShapes Go.ChangeAt Go.RowKit
set_option linter.unusedVariables false
set_option linter.unusedSimpArgs false
set_option maxRecDepth 100000

set_option maxHeartbeats 4000000 in
theorem stateAfter_any (f : Fl) (p : Pk) (b : Bool) (w : World) : Calls Try.prog 29 #[.agg #[.int .i64 f.orig.proto, .int .i64 f.orig.src, .int .i64 f.orig.sport, .int .i64 f.orig.dst, .int .i64 f.orig.dport, .int .i64 f.orig.kind, .int .i64 f.back.proto, .int .i64 f.back.src, .int .i64 f.back.sport, .int .i64 f.back.dst, .int .i64 f.back.dport, .int .i64 f.back.kind, .int .i64 f.state, .bool f.seen, .bool f.sure, .int .i64 f.till, .int .i64 f.count], .agg #[.int .i64 p.src, .int .i64 p.dst, .int .i64 p.proto, .int .i64 p.a, .int .i64 p.b, .int .i64 p.kind, .int .i64 p.flags, .int .i64 p.seq, .int .i64 p.ack, .string p.body], .bool b] w fun e w' => e = .returned (.int .i64 (toZ f.orig.proto f.state b p.flags)) ∧ Below w.heap.size w w' := by
  have HT := hidS (fun W => areTcp_any f.orig f.back W)
  have HS := hidS (fun W => sameB (implSign_any p.flags W))
  have HN := hidS (fun W => implNext_any f.state b (signZ p.flags) W)
  have hGK0 : Hid (((w.alloc (.cells #[.int .i64 f.orig.proto, .int .i64 f.orig.src, .int .i64 f.orig.sport, .int .i64 f.orig.dst, .int .i64 f.orig.dport, .int .i64 f.orig.kind, .int .i64 f.back.proto, .int .i64 f.back.src, .int .i64 f.back.sport, .int .i64 f.back.dst, .int .i64 f.back.dport, .int .i64 f.back.kind, .int .i64 f.state, .bool f.seen, .bool f.sure, .int .i64 f.till, .int .i64 f.count] 51)).alloc (.cells #[.int .i64 p.src, .int .i64 p.dst, .int .i64 p.proto, .int .i64 p.a, .int .i64 p.b, .int .i64 p.kind, .int .i64 p.flags, .int .i64 p.seq, .int .i64 p.ack, .string p.body] 38)).heap[w.heap.size]? = some (.cells #[.int .i64 f.orig.proto, .int .i64 f.orig.src, .int .i64 f.orig.sport, .int .i64 f.orig.dst, .int .i64 f.orig.dport, .int .i64 f.orig.kind, .int .i64 f.back.proto, .int .i64 f.back.src, .int .i64 f.back.sport, .int .i64 f.back.dst, .int .i64 f.back.dport, .int .i64 f.back.kind, .int .i64 f.state, .bool f.seen, .bool f.sure, .int .i64 f.till, .int .i64 f.count] 51)) := by
    show _ = _
    have := blk_alloc (heap_newG w (.cells #[.int .i64 f.orig.proto, .int .i64 f.orig.src, .int .i64 f.orig.sport, .int .i64 f.orig.dst, .int .i64 f.orig.dport, .int .i64 f.orig.kind, .int .i64 f.back.proto, .int .i64 f.back.src, .int .i64 f.back.sport, .int .i64 f.back.dst, .int .i64 f.back.dport, .int .i64 f.back.kind, .int .i64 f.state, .bool f.seen, .bool f.sure, .int .i64 f.till, .int .i64 f.count] 51)) (.cells #[.int .i64 p.src, .int .i64 p.dst, .int .i64 p.proto, .int .i64 p.a, .int .i64 p.b, .int .i64 p.kind, .int .i64 p.flags, .int .i64 p.seq, .int .i64 p.ack, .string p.body] 38)
    simpa using this
  have hGP0 : Hid (((w.alloc (.cells #[.int .i64 f.orig.proto, .int .i64 f.orig.src, .int .i64 f.orig.sport, .int .i64 f.orig.dst, .int .i64 f.orig.dport, .int .i64 f.orig.kind, .int .i64 f.back.proto, .int .i64 f.back.src, .int .i64 f.back.sport, .int .i64 f.back.dst, .int .i64 f.back.dport, .int .i64 f.back.kind, .int .i64 f.state, .bool f.seen, .bool f.sure, .int .i64 f.till, .int .i64 f.count] 51)).alloc (.cells #[.int .i64 p.src, .int .i64 p.dst, .int .i64 p.proto, .int .i64 p.a, .int .i64 p.b, .int .i64 p.kind, .int .i64 p.flags, .int .i64 p.seq, .int .i64 p.ack, .string p.body] 38)).heap[w.heap.size + 1]? = some (.cells #[.int .i64 p.src, .int .i64 p.dst, .int .i64 p.proto, .int .i64 p.a, .int .i64 p.b, .int .i64 p.kind, .int .i64 p.flags, .int .i64 p.seq, .int .i64 p.ack, .string p.body] 38)) := by
    show _ = _
    have := heap_newG (w.alloc (.cells #[.int .i64 f.orig.proto, .int .i64 f.orig.src, .int .i64 f.orig.sport, .int .i64 f.orig.dst, .int .i64 f.orig.dport, .int .i64 f.orig.kind, .int .i64 f.back.proto, .int .i64 f.back.src, .int .i64 f.back.sport, .int .i64 f.back.dst, .int .i64 f.back.dport, .int .i64 f.back.kind, .int .i64 f.state, .bool f.seen, .bool f.sure, .int .i64 f.till, .int .i64 f.count] 51)) (.cells #[.int .i64 p.src, .int .i64 p.dst, .int .i64 p.proto, .int .i64 p.a, .int .i64 p.b, .int .i64 p.kind, .int .i64 p.flags, .int .i64 p.seq, .int .i64 p.ack, .string p.body] 38)
    simpa using this
  have hL0 := hidS (((Below.refl w.heap.size w).alloc (Nat.le_refl _) (.cells #[.int .i64 f.orig.proto, .int .i64 f.orig.src, .int .i64 f.orig.sport, .int .i64 f.orig.dst, .int .i64 f.orig.dport, .int .i64 f.orig.kind, .int .i64 f.back.proto, .int .i64 f.back.src, .int .i64 f.back.sport, .int .i64 f.back.dst, .int .i64 f.back.dport, .int .i64 f.back.kind, .int .i64 f.state, .bool f.seen, .bool f.sure, .int .i64 f.till, .int .i64 f.count] 51)).alloc (by simp) (.cells #[.int .i64 p.src, .int .i64 p.dst, .int .i64 p.proto, .int .i64 p.a, .int .i64 p.b, .int .i64 p.kind, .int .i64 p.flags, .int .i64 p.seq, .int .i64 p.ack, .string p.body] 38))
  go_enter Try.func29, Try.ntmps29
  go_upto_region 1 with fail
  generalize ((w.alloc (.cells #[.int .i64 f.orig.proto, .int .i64 f.orig.src, .int .i64 f.orig.sport, .int .i64 f.orig.dst, .int .i64 f.orig.dport, .int .i64 f.orig.kind, .int .i64 f.back.proto, .int .i64 f.back.src, .int .i64 f.back.sport, .int .i64 f.back.dst, .int .i64 f.back.dport, .int .i64 f.back.kind, .int .i64 f.state, .bool f.seen, .bool f.sure, .int .i64 f.till, .int .i64 f.count] 51)).alloc (.cells #[.int .i64 p.src, .int .i64 p.dst, .int .i64 p.proto, .int .i64 p.a, .int .i64 p.b, .int .i64 p.kind, .int .i64 p.flags, .int .i64 p.seq, .int .i64 p.ack, .string p.body] 38)) = w0 at hGK0 hGP0 hL0 ⊢
  go_wp2_with (first | refine wpList_load_part 49 (.tmp 7) rfl rfl (o := 0) [.int .i64 f.orig.proto, .int .i64 f.orig.src, .int .i64 f.orig.sport, .int .i64 f.orig.dst, .int .i64 f.orig.dport, .int .i64 f.orig.kind, .int .i64 f.back.proto, .int .i64 f.back.src, .int .i64 f.back.sport, .int .i64 f.back.dst, .int .i64 f.back.dport, .int .i64 f.back.kind] rfl hGK0.out rfl Try.underlying49 rfl (by kernel_rfl) ?_)
  refine (HT.out _).mono ?_
  rintro _ w1 ⟨rfl, hb1⟩
  have hGK1 := hidS (blk_later hGK0.out hb1)
  have hGP1 := hidS (blk_later hGP0.out hb1)
  have hL1 := hidS (hL0.out.trans (hb1.mono hL0.out.size))
  clear hb1 hL0 hGK0 hGP0
  cases h6 : (f.orig.proto == 6)
  · have E := hidS (toZ_no (s := f.state) (b := b) (f := p.flags) (beq_eq_false_iff_ne.1 h6))
    go_wp2_with fail
    go_ret
    exact ⟨by rw [E.out]; rfl, hL1.out⟩
  have E := hidS (toZ_6 (s := f.state) (b := b) (f := p.flags) (beq_iff_eq.1 h6))
  go_upto_region 2 with fail
  refine grow_guarded 8 [.is (.pointer (some ⟨w.heap.size, 12, none⟩)), .is (.int .i64 f.state), .is (.bool b), .is (.pointer (some ⟨w.heap.size + 1, 6, none⟩)), .is (.int .i64 p.flags), .is (.int .i64 (signZ p.flags)), .is (.int .i64 (nextZ f.state b (signZ p.flags))), .is (.int .i64 (nextZ f.state b (signZ p.flags)))] rfl (by kernel_rfl) (by kernel_rfl) ?stepsA_4 ?finA_4
  case stepsA_4 =>
    refine ⟨?_, ?_, ?_, ?_, ?_, ?_, ?_, ?_, trivial⟩
    · refine stepW_of_u ⟨rfl, fun v W ρ hC kc kf ks ki kd => ?_⟩
      have t3 : ρ (.tmp 3) = .pointer (some ⟨w.heap.size, 0, none⟩) := ki 3 (by decide)
      simp [execOp, go_sem, kc, t3]
      exact ⟨hC, Below.refl _ _, rfl⟩
    · refine stepW_of_u ⟨rfl, fun v W ρ hC kc kf ks ki kd => ?_⟩
      have d0 : v 0 = .pointer (some ⟨w.heap.size, 12, none⟩) := by first | exact kd _ (mem0 rfl) rfl | exact kd _ (mem1 rfl) rfl | exact kd _ (mem2 rfl) rfl | exact kd _ (mem3 rfl) rfl | exact kd _ (mem4 rfl) rfl | exact kd _ (mem5 rfl) rfl | exact kd _ (Array.mem_of_getElem? (i := 6) rfl) rfl | exact kd _ (Array.mem_of_getElem? (i := 7) rfl) rfl
      have t10 : ρ (.tmp 10) = .pointer (some ⟨w.heap.size, 12, none⟩) := (ks 0 10 (by decide) rfl).trans d0
      have hg := blk_later hGK1.out hC
      have c12 := blk_cell hg 12
      simp at c12
      simp [execOp, go_sem, kc, t10, c12]
      exact ⟨hC, Below.refl _ _, rfl⟩
    · refine stepW_of_u ⟨rfl, fun v W ρ hC kc kf ks ki kd => ?_⟩
      have t2 : ρ (.tmp 2) = .bool b := ki 2 (by decide)
      simp [execOp, go_sem, kc, t2]
      exact ⟨hC, Below.refl _ _, rfl⟩
    · refine stepW_of_u ⟨rfl, fun v W ρ hC kc kf ks ki kd => ?_⟩
      have t4 : ρ (.tmp 4) = .pointer (some ⟨w.heap.size + 1, 0, none⟩) := ki 4 (by decide)
      simp [execOp, go_sem, kc, t4]
      exact ⟨hC, Below.refl _ _, rfl⟩
    · refine stepW_of_u ⟨rfl, fun v W ρ hC kc kf ks ki kd => ?_⟩
      have d3 : v 3 = .pointer (some ⟨w.heap.size + 1, 6, none⟩) := by first | exact kd _ (mem0 rfl) rfl | exact kd _ (mem1 rfl) rfl | exact kd _ (mem2 rfl) rfl | exact kd _ (mem3 rfl) rfl | exact kd _ (mem4 rfl) rfl | exact kd _ (mem5 rfl) rfl | exact kd _ (Array.mem_of_getElem? (i := 6) rfl) rfl | exact kd _ (Array.mem_of_getElem? (i := 7) rfl) rfl
      have t13 : ρ (.tmp 13) = .pointer (some ⟨w.heap.size + 1, 6, none⟩) := (ks 3 13 (by decide) rfl).trans d3
      have hg := blk_later hGP1.out hC
      have c6 := blk_cell hg 6
      simp at c6
      simp [execOp, go_sem, kc, t13, c6]
      exact ⟨hC, Below.refl _ _, rfl⟩
    · refine stepW_of_u ⟨rfl, fun v W ρ hC kc kf ks ki kd => ?_⟩
      have d4 : v 4 = .int .i64 p.flags := by first | exact kd _ (mem0 rfl) rfl | exact kd _ (mem1 rfl) rfl | exact kd _ (mem2 rfl) rfl | exact kd _ (mem3 rfl) rfl | exact kd _ (mem4 rfl) rfl | exact kd _ (mem5 rfl) rfl | exact kd _ (Array.mem_of_getElem? (i := 6) rfl) rfl | exact kd _ (Array.mem_of_getElem? (i := 7) rfl) rfl
      have t14 : ρ (.tmp 14) = .int .i64 p.flags := (ks 4 14 (by decide) rfl).trans d4
      simp [execOp, go_sem, kc, t14, kf]
      exact Calls.mono (HS.out W) (fun e x h => ⟨_, h.1, hC.trans (h.2.mono hC.size), h.2, rfl⟩)
    · refine stepW_of_u ⟨rfl, fun v W ρ hC kc kf ks ki kd => ?_⟩
      have d1 : v 1 = .int .i64 f.state := by first | exact kd _ (mem0 rfl) rfl | exact kd _ (mem1 rfl) rfl | exact kd _ (mem2 rfl) rfl | exact kd _ (mem3 rfl) rfl | exact kd _ (mem4 rfl) rfl | exact kd _ (mem5 rfl) rfl | exact kd _ (Array.mem_of_getElem? (i := 6) rfl) rfl | exact kd _ (Array.mem_of_getElem? (i := 7) rfl) rfl
      have t11 : ρ (.tmp 11) = .int .i64 f.state := (ks 1 11 (by decide) rfl).trans d1
      have d2 : v 2 = .bool b := by first | exact kd _ (mem0 rfl) rfl | exact kd _ (mem1 rfl) rfl | exact kd _ (mem2 rfl) rfl | exact kd _ (mem3 rfl) rfl | exact kd _ (mem4 rfl) rfl | exact kd _ (mem5 rfl) rfl | exact kd _ (Array.mem_of_getElem? (i := 6) rfl) rfl | exact kd _ (Array.mem_of_getElem? (i := 7) rfl) rfl
      have t12 : ρ (.tmp 12) = .bool b := (ks 2 12 (by decide) rfl).trans d2
      have d5 : v 5 = .int .i64 (signZ p.flags) := by first | exact kd _ (mem0 rfl) rfl | exact kd _ (mem1 rfl) rfl | exact kd _ (mem2 rfl) rfl | exact kd _ (mem3 rfl) rfl | exact kd _ (mem4 rfl) rfl | exact kd _ (mem5 rfl) rfl | exact kd _ (Array.mem_of_getElem? (i := 6) rfl) rfl | exact kd _ (Array.mem_of_getElem? (i := 7) rfl) rfl
      have t15 : ρ (.tmp 15) = .int .i64 (signZ p.flags) := (ks 5 15 (by decide) rfl).trans d5
      simp [execOp, go_sem, kc, t11, t12, t15, kf]
      exact Calls.mono (HN.out W) (fun e x h => ⟨_, h.1, hC.trans (h.2.mono hC.size), h.2, rfl⟩)
    · refine stepW_of_u ⟨rfl, fun v W ρ hC kc kf ks ki kd => ?_⟩
      have d6 : v 6 = .int .i64 (nextZ f.state b (signZ p.flags)) := by first | exact kd _ (mem0 rfl) rfl | exact kd _ (mem1 rfl) rfl | exact kd _ (mem2 rfl) rfl | exact kd _ (mem3 rfl) rfl | exact kd _ (mem4 rfl) rfl | exact kd _ (mem5 rfl) rfl | exact kd _ (Array.mem_of_getElem? (i := 6) rfl) rfl | exact kd _ (Array.mem_of_getElem? (i := 7) rfl) rfl
      have t16 : ρ (.tmp 16) = .int .i64 (nextZ f.state b (signZ p.flags)) := (ks 6 16 (by decide) rfl).trans d6
      simp [execOp, go_sem, kc, t16]
      exact ⟨hC, Below.refl _ _, rfl⟩
  intro vA_4 w2 hb2 hall
  have hvA_4 : vA_4 7 = .int .i64 (nextZ f.state b (signZ p.flags)) := hall 7 (by decide)
  simp [upto, Act.put]
  rw [hvA_4]
  clear hall hvA_4
  have hGK2 := hidS (blk_later hGK1.out hb2)
  have hGP2 := hidS (blk_later hGP1.out hb2)
  have hL2 := hidS (hL1.out.trans (hb2.mono hL1.out.size))
  clear hb2 hL1 hGK1 hGP1
  go_wp2_with fail
  go_ret
  exact ⟨by rw [E.out]; rfl, hL2.out⟩
set_option maxHeartbeats 4000000 in
theorem isAssuredBy_any (f : Fl) (b : Bool) (w : World) : Calls Try.prog 59 #[.agg #[.int .i64 f.orig.proto, .int .i64 f.orig.src, .int .i64 f.orig.sport, .int .i64 f.orig.dst, .int .i64 f.orig.dport, .int .i64 f.orig.kind, .int .i64 f.back.proto, .int .i64 f.back.src, .int .i64 f.back.sport, .int .i64 f.back.dst, .int .i64 f.back.dport, .int .i64 f.back.kind, .int .i64 f.state, .bool f.seen, .bool f.sure, .int .i64 f.till, .int .i64 f.count], .bool b] w fun e w' => e = .returned (.bool (byB f b)) ∧ Below w.heap.size w w' := by
  have E : Hid (byB f b = (f.seen && ((f.orig.proto == 6 && f.state == 3) || (f.orig.proto == 17 && !b)))) := rfl
  have HT := hidS (fun W => areTcp_any f.orig f.back W)
  have HU := hidS (fun W => areUdp_any f.orig f.back W)
  have hGK0 : Hid ((w.alloc (.cells #[.int .i64 f.orig.proto, .int .i64 f.orig.src, .int .i64 f.orig.sport, .int .i64 f.orig.dst, .int .i64 f.orig.dport, .int .i64 f.orig.kind, .int .i64 f.back.proto, .int .i64 f.back.src, .int .i64 f.back.sport, .int .i64 f.back.dst, .int .i64 f.back.dport, .int .i64 f.back.kind, .int .i64 f.state, .bool f.seen, .bool f.sure, .int .i64 f.till, .int .i64 f.count] 51)).heap[w.heap.size]? = some (.cells #[.int .i64 f.orig.proto, .int .i64 f.orig.src, .int .i64 f.orig.sport, .int .i64 f.orig.dst, .int .i64 f.orig.dport, .int .i64 f.orig.kind, .int .i64 f.back.proto, .int .i64 f.back.src, .int .i64 f.back.sport, .int .i64 f.back.dst, .int .i64 f.back.dport, .int .i64 f.back.kind, .int .i64 f.state, .bool f.seen, .bool f.sure, .int .i64 f.till, .int .i64 f.count] 51)) := by
    show _ = _
    have := heap_newG w (.cells #[.int .i64 f.orig.proto, .int .i64 f.orig.src, .int .i64 f.orig.sport, .int .i64 f.orig.dst, .int .i64 f.orig.dport, .int .i64 f.orig.kind, .int .i64 f.back.proto, .int .i64 f.back.src, .int .i64 f.back.sport, .int .i64 f.back.dst, .int .i64 f.back.dport, .int .i64 f.back.kind, .int .i64 f.state, .bool f.seen, .bool f.sure, .int .i64 f.till, .int .i64 f.count] 51)
    simpa using this
  have hL0 := hidS ((Below.refl w.heap.size w).alloc (Nat.le_refl _) (.cells #[.int .i64 f.orig.proto, .int .i64 f.orig.src, .int .i64 f.orig.sport, .int .i64 f.orig.dst, .int .i64 f.orig.dport, .int .i64 f.orig.kind, .int .i64 f.back.proto, .int .i64 f.back.src, .int .i64 f.back.sport, .int .i64 f.back.dst, .int .i64 f.back.dport, .int .i64 f.back.kind, .int .i64 f.state, .bool f.seen, .bool f.sure, .int .i64 f.till, .int .i64 f.count] 51))
  go_enter Try.func59, Try.ntmps59
  go_upto_region 1 with fail
  generalize (w.alloc (.cells #[.int .i64 f.orig.proto, .int .i64 f.orig.src, .int .i64 f.orig.sport, .int .i64 f.orig.dst, .int .i64 f.orig.dport, .int .i64 f.orig.kind, .int .i64 f.back.proto, .int .i64 f.back.src, .int .i64 f.back.sport, .int .i64 f.back.dst, .int .i64 f.back.dport, .int .i64 f.back.kind, .int .i64 f.state, .bool f.seen, .bool f.sure, .int .i64 f.till, .int .i64 f.count] 51)) = w0 at hGK0 hL0 ⊢
  have cK0 := blk_cell hGK0.out 0
  have cK1 := blk_cell hGK0.out 1
  have cK2 := blk_cell hGK0.out 2
  have cK3 := blk_cell hGK0.out 3
  have cK4 := blk_cell hGK0.out 4
  have cK5 := blk_cell hGK0.out 5
  have cK6 := blk_cell hGK0.out 6
  have cK7 := blk_cell hGK0.out 7
  have cK8 := blk_cell hGK0.out 8
  have cK9 := blk_cell hGK0.out 9
  have cK10 := blk_cell hGK0.out 10
  have cK11 := blk_cell hGK0.out 11
  have cK12 := blk_cell hGK0.out 12
  have cK13 := blk_cell hGK0.out 13
  have cK14 := blk_cell hGK0.out 14
  have cK15 := blk_cell hGK0.out 15
  have cK16 := blk_cell hGK0.out 16
  simp at cK0 cK1 cK2 cK3 cK4 cK5 cK6 cK7 cK8 cK9 cK10 cK11 cK12 cK13 cK14 cK15 cK16
  cases hn : f.seen
  · go_wp2_with fail
    go_ret
    exact ⟨by rw [E.out, hn]; rfl, hL0.out⟩
  go_wp2_with (first | refine wpList_load_part 49 (.tmp 8) rfl rfl (o := 0) [.int .i64 f.orig.proto, .int .i64 f.orig.src, .int .i64 f.orig.sport, .int .i64 f.orig.dst, .int .i64 f.orig.dport, .int .i64 f.orig.kind, .int .i64 f.back.proto, .int .i64 f.back.src, .int .i64 f.back.sport, .int .i64 f.back.dst, .int .i64 f.back.dport, .int .i64 f.back.kind] rfl hGK0.out rfl Try.underlying49 rfl (by kernel_rfl) ?_)
  refine (HT.out _).mono ?_
  rintro _ w1 ⟨rfl, hb1⟩
  clear cK0 cK1 cK2 cK3 cK4 cK5 cK6 cK7 cK8 cK9 cK10 cK11 cK12 cK13 cK14 cK15 cK16
  have hGK1 := hidS (blk_later hGK0.out hb1)
  have hL1 := hidS (hL0.out.trans (hb1.mono hL0.out.size))
  clear hb1 hL0 hGK0
  have cK0 := blk_cell hGK1.out 0
  have cK1 := blk_cell hGK1.out 1
  have cK2 := blk_cell hGK1.out 2
  have cK3 := blk_cell hGK1.out 3
  have cK4 := blk_cell hGK1.out 4
  have cK5 := blk_cell hGK1.out 5
  have cK6 := blk_cell hGK1.out 6
  have cK7 := blk_cell hGK1.out 7
  have cK8 := blk_cell hGK1.out 8
  have cK9 := blk_cell hGK1.out 9
  have cK10 := blk_cell hGK1.out 10
  have cK11 := blk_cell hGK1.out 11
  have cK12 := blk_cell hGK1.out 12
  have cK13 := blk_cell hGK1.out 13
  have cK14 := blk_cell hGK1.out 14
  have cK15 := blk_cell hGK1.out 15
  have cK16 := blk_cell hGK1.out 16
  simp at cK0 cK1 cK2 cK3 cK4 cK5 cK6 cK7 cK8 cK9 cK10 cK11 cK12 cK13 cK14 cK15 cK16
  cases h6 : (f.orig.proto == 6)
  · go_wp2_with (first | refine wpList_load_part 49 (.tmp 17) rfl rfl (o := 0) [.int .i64 f.orig.proto, .int .i64 f.orig.src, .int .i64 f.orig.sport, .int .i64 f.orig.dst, .int .i64 f.orig.dport, .int .i64 f.orig.kind, .int .i64 f.back.proto, .int .i64 f.back.src, .int .i64 f.back.sport, .int .i64 f.back.dst, .int .i64 f.back.dport, .int .i64 f.back.kind] rfl hGK1.out rfl Try.underlying49 rfl (by kernel_rfl) ?_)
    refine (HU.out _).mono ?_
    rintro _ w2 ⟨rfl, hb2⟩
    clear cK0 cK1 cK2 cK3 cK4 cK5 cK6 cK7 cK8 cK9 cK10 cK11 cK12 cK13 cK14 cK15 cK16
    have hGK2 := hidS (blk_later hGK1.out hb2)
    have hL2 := hidS (hL1.out.trans (hb2.mono hL1.out.size))
    clear hb2 hL1 hGK1
    cases h17 : (f.orig.proto == 17)
    · go_wp2_with fail
      go_ret
      exact ⟨by rw [E.out, hn, h6, h17]; rfl, hL2.out⟩
    go_wp2_with fail
    go_ret
    exact ⟨by rw [E.out, hn, h6, h17]; rfl, hL2.out⟩
  cases h3 : (f.state == 3)
  · go_wp2_with (first | refine wpList_load_part 49 (.tmp 17) rfl rfl (o := 0) [.int .i64 f.orig.proto, .int .i64 f.orig.src, .int .i64 f.orig.sport, .int .i64 f.orig.dst, .int .i64 f.orig.dport, .int .i64 f.orig.kind, .int .i64 f.back.proto, .int .i64 f.back.src, .int .i64 f.back.sport, .int .i64 f.back.dst, .int .i64 f.back.dport, .int .i64 f.back.kind] rfl hGK1.out rfl Try.underlying49 rfl (by kernel_rfl) ?_)
    refine (HU.out _).mono ?_
    rintro _ w2 ⟨rfl, hb2⟩
    clear cK0 cK1 cK2 cK3 cK4 cK5 cK6 cK7 cK8 cK9 cK10 cK11 cK12 cK13 cK14 cK15 cK16
    have hGK2 := hidS (blk_later hGK1.out hb2)
    have hL2 := hidS (hL1.out.trans (hb2.mono hL1.out.size))
    clear hb2 hL1 hGK1
    cases h17 : (f.orig.proto == 17)
    · go_wp2_with fail
      go_ret
      exact ⟨by rw [E.out, hn, h6, h3, h17]; rfl, hL2.out⟩
    go_wp2_with fail
    go_ret
    exact ⟨by rw [E.out, hn, h6, h3, h17]; rfl, hL2.out⟩
  go_wp2_with fail
  go_ret
  exact ⟨by rw [E.out, hn, h6, h3]; rfl, hL1.out⟩
set_option maxHeartbeats 4000000 in
theorem life_any (f : Fl) (w : World) : Calls Try.prog 56 #[.agg #[.int .i64 f.orig.proto, .int .i64 f.orig.src, .int .i64 f.orig.sport, .int .i64 f.orig.dst, .int .i64 f.orig.dport, .int .i64 f.orig.kind, .int .i64 f.back.proto, .int .i64 f.back.src, .int .i64 f.back.sport, .int .i64 f.back.dst, .int .i64 f.back.dport, .int .i64 f.back.kind, .int .i64 f.state, .bool f.seen, .bool f.sure, .int .i64 f.till, .int .i64 f.count]] w fun e w' => e = .returned (.int .i64 (liveI f)) ∧ Below w.heap.size w w' := by
  have E : Hid (liveI f = if f.orig.proto = 6 then lifeZ f.state else if f.orig.proto = 1 then 10 else if f.sure then 180 else 30) := rfl
  have HT := hidS (fun W => areTcp_any f.orig f.back W)
  have HP := hidS (fun W => arePing_any f.orig f.back W)
  have HL := hidS (fun W => implLife_any f.state W)
  have hGK0 : Hid ((w.alloc (.cells #[.int .i64 f.orig.proto, .int .i64 f.orig.src, .int .i64 f.orig.sport, .int .i64 f.orig.dst, .int .i64 f.orig.dport, .int .i64 f.orig.kind, .int .i64 f.back.proto, .int .i64 f.back.src, .int .i64 f.back.sport, .int .i64 f.back.dst, .int .i64 f.back.dport, .int .i64 f.back.kind, .int .i64 f.state, .bool f.seen, .bool f.sure, .int .i64 f.till, .int .i64 f.count] 51)).heap[w.heap.size]? = some (.cells #[.int .i64 f.orig.proto, .int .i64 f.orig.src, .int .i64 f.orig.sport, .int .i64 f.orig.dst, .int .i64 f.orig.dport, .int .i64 f.orig.kind, .int .i64 f.back.proto, .int .i64 f.back.src, .int .i64 f.back.sport, .int .i64 f.back.dst, .int .i64 f.back.dport, .int .i64 f.back.kind, .int .i64 f.state, .bool f.seen, .bool f.sure, .int .i64 f.till, .int .i64 f.count] 51)) := by
    show _ = _
    have := heap_newG w (.cells #[.int .i64 f.orig.proto, .int .i64 f.orig.src, .int .i64 f.orig.sport, .int .i64 f.orig.dst, .int .i64 f.orig.dport, .int .i64 f.orig.kind, .int .i64 f.back.proto, .int .i64 f.back.src, .int .i64 f.back.sport, .int .i64 f.back.dst, .int .i64 f.back.dport, .int .i64 f.back.kind, .int .i64 f.state, .bool f.seen, .bool f.sure, .int .i64 f.till, .int .i64 f.count] 51)
    simpa using this
  have hL0 := hidS ((Below.refl w.heap.size w).alloc (Nat.le_refl _) (.cells #[.int .i64 f.orig.proto, .int .i64 f.orig.src, .int .i64 f.orig.sport, .int .i64 f.orig.dst, .int .i64 f.orig.dport, .int .i64 f.orig.kind, .int .i64 f.back.proto, .int .i64 f.back.src, .int .i64 f.back.sport, .int .i64 f.back.dst, .int .i64 f.back.dport, .int .i64 f.back.kind, .int .i64 f.state, .bool f.seen, .bool f.sure, .int .i64 f.till, .int .i64 f.count] 51))
  go_enter Try.func56, Try.ntmps56
  go_upto_region 1 with fail
  generalize (w.alloc (.cells #[.int .i64 f.orig.proto, .int .i64 f.orig.src, .int .i64 f.orig.sport, .int .i64 f.orig.dst, .int .i64 f.orig.dport, .int .i64 f.orig.kind, .int .i64 f.back.proto, .int .i64 f.back.src, .int .i64 f.back.sport, .int .i64 f.back.dst, .int .i64 f.back.dport, .int .i64 f.back.kind, .int .i64 f.state, .bool f.seen, .bool f.sure, .int .i64 f.till, .int .i64 f.count] 51)) = w0 at hGK0 hL0 ⊢
  go_wp2_with (first | refine wpList_load_part 49 (.tmp 4) rfl rfl (o := 0) [.int .i64 f.orig.proto, .int .i64 f.orig.src, .int .i64 f.orig.sport, .int .i64 f.orig.dst, .int .i64 f.orig.dport, .int .i64 f.orig.kind, .int .i64 f.back.proto, .int .i64 f.back.src, .int .i64 f.back.sport, .int .i64 f.back.dst, .int .i64 f.back.dport, .int .i64 f.back.kind] rfl hGK0.out rfl Try.underlying49 rfl (by kernel_rfl) ?_)
  refine (HT.out _).mono ?_
  rintro _ w1 ⟨rfl, hb1⟩
  have hGK1 := hidS (blk_later hGK0.out hb1)
  have hL1 := hidS (hL0.out.trans (hb1.mono hL0.out.size))
  clear hb1 hL0 hGK0
  cases h6 : (f.orig.proto == 6)
  · have E2 := hidS (E.out.trans (if_neg (beq_eq_false_iff_ne.1 h6)))
    go_wp2_with (first | refine wpList_load_part 49 (.tmp 11) rfl rfl (o := 0) [.int .i64 f.orig.proto, .int .i64 f.orig.src, .int .i64 f.orig.sport, .int .i64 f.orig.dst, .int .i64 f.orig.dport, .int .i64 f.orig.kind, .int .i64 f.back.proto, .int .i64 f.back.src, .int .i64 f.back.sport, .int .i64 f.back.dst, .int .i64 f.back.dport, .int .i64 f.back.kind] rfl hGK1.out rfl Try.underlying49 rfl (by kernel_rfl) ?_)
    refine (HP.out _).mono ?_
    rintro _ w2 ⟨rfl, hb2⟩
    have hGK2 := hidS (blk_later hGK1.out hb2)
    have hL2 := hidS (hL1.out.trans (hb2.mono hL1.out.size))
    clear hb2 hL1 hGK1
    cases h1 : (f.orig.proto == 1)
    · have E3 := hidS (E2.out.trans (if_neg (beq_eq_false_iff_ne.1 h1)))
      have cK0 := blk_cell hGK2.out 0
      have cK1 := blk_cell hGK2.out 1
      have cK2 := blk_cell hGK2.out 2
      have cK3 := blk_cell hGK2.out 3
      have cK4 := blk_cell hGK2.out 4
      have cK5 := blk_cell hGK2.out 5
      have cK6 := blk_cell hGK2.out 6
      have cK7 := blk_cell hGK2.out 7
      have cK8 := blk_cell hGK2.out 8
      have cK9 := blk_cell hGK2.out 9
      have cK10 := blk_cell hGK2.out 10
      have cK11 := blk_cell hGK2.out 11
      have cK12 := blk_cell hGK2.out 12
      have cK13 := blk_cell hGK2.out 13
      have cK14 := blk_cell hGK2.out 14
      have cK15 := blk_cell hGK2.out 15
      have cK16 := blk_cell hGK2.out 16
      simp at cK0 cK1 cK2 cK3 cK4 cK5 cK6 cK7 cK8 cK9 cK10 cK11 cK12 cK13 cK14 cK15 cK16
      cases hu : f.sure
      · go_wp2_with fail
        go_ret
        exact ⟨by rw [E3.out, hu]; rfl, hL2.out⟩
      go_wp2_with fail
      go_ret
      exact ⟨by rw [E3.out, hu]; rfl, hL2.out⟩
    have E3 := hidS (E2.out.trans (if_pos (beq_iff_eq.1 h1)))
    go_wp2_with fail
    go_ret
    exact ⟨by rw [E3.out]; rfl, hL2.out⟩
  have E2 := hidS (E.out.trans (if_pos (beq_iff_eq.1 h6)))
  have cK0 := blk_cell hGK1.out 0
  have cK1 := blk_cell hGK1.out 1
  have cK2 := blk_cell hGK1.out 2
  have cK3 := blk_cell hGK1.out 3
  have cK4 := blk_cell hGK1.out 4
  have cK5 := blk_cell hGK1.out 5
  have cK6 := blk_cell hGK1.out 6
  have cK7 := blk_cell hGK1.out 7
  have cK8 := blk_cell hGK1.out 8
  have cK9 := blk_cell hGK1.out 9
  have cK10 := blk_cell hGK1.out 10
  have cK11 := blk_cell hGK1.out 11
  have cK12 := blk_cell hGK1.out 12
  have cK13 := blk_cell hGK1.out 13
  have cK14 := blk_cell hGK1.out 14
  have cK15 := blk_cell hGK1.out 15
  have cK16 := blk_cell hGK1.out 16
  simp at cK0 cK1 cK2 cK3 cK4 cK5 cK6 cK7 cK8 cK9 cK10 cK11 cK12 cK13 cK14 cK15 cK16
  go_wp2_with fail
  refine (HL.out _).mono ?_
  rintro _ w2 ⟨rfl, hb2⟩
  clear cK0 cK1 cK2 cK3 cK4 cK5 cK6 cK7 cK8 cK9 cK10 cK11 cK12 cK13 cK14 cK15 cK16
  have hGK2 := hidS (blk_later hGK1.out hb2)
  have hL2 := hidS (hL1.out.trans (hb2.mono hL1.out.size))
  clear hb2 hL1 hGK1
  go_wp2_with fail
  go_ret
  exact ⟨by rw [E2.out]; rfl, hL2.out⟩
set_option maxHeartbeats 4000000 in
theorem counted_any (f : Fl) (now : Int) (w : World) (h0 : 0 ≤ now ∧ now ≤ 1000000) (hc : 0 ≤ f.count ∧ f.count ≤ 1000000) : Calls Try.prog 31 #[.agg #[.int .i64 f.orig.proto, .int .i64 f.orig.src, .int .i64 f.orig.sport, .int .i64 f.orig.dst, .int .i64 f.orig.dport, .int .i64 f.orig.kind, .int .i64 f.back.proto, .int .i64 f.back.src, .int .i64 f.back.sport, .int .i64 f.back.dst, .int .i64 f.back.dport, .int .i64 f.back.kind, .int .i64 f.state, .bool f.seen, .bool f.sure, .int .i64 f.till, .int .i64 f.count], .int .i64 now] w fun e w' => e = .returned (.agg #[.int .i64 (counted f now).orig.proto, .int .i64 (counted f now).orig.src, .int .i64 (counted f now).orig.sport, .int .i64 (counted f now).orig.dst, .int .i64 (counted f now).orig.dport, .int .i64 (counted f now).orig.kind, .int .i64 (counted f now).back.proto, .int .i64 (counted f now).back.src, .int .i64 (counted f now).back.sport, .int .i64 (counted f now).back.dst, .int .i64 (counted f now).back.dport, .int .i64 (counted f now).back.kind, .int .i64 (counted f now).state, .bool (counted f now).seen, .bool (counted f now).sure, .int .i64 (counted f now).till, .int .i64 (counted f now).count]) ∧ Below w.heap.size w w' := by
  have HL := hidS (fun W => life_any f W)
  have hb := liveI_bd f
  obtain ⟨hb0, hb1⟩ := hb
  obtain ⟨h00, h01⟩ := h0
  obtain ⟨hc0, hc1⟩ := hc
  have E : Hid (counted f now = ⟨f.orig, f.back, f.state, f.seen, f.sure, minN 1000000 (now + liveI f), f.count + 1⟩) := rfl
  have hGK0 : Hid (((w.alloc (.cells #[.int .i64 f.orig.proto, .int .i64 f.orig.src, .int .i64 f.orig.sport, .int .i64 f.orig.dst, .int .i64 f.orig.dport, .int .i64 f.orig.kind, .int .i64 f.back.proto, .int .i64 f.back.src, .int .i64 f.back.sport, .int .i64 f.back.dst, .int .i64 f.back.dport, .int .i64 f.back.kind, .int .i64 f.state, .bool f.seen, .bool f.sure, .int .i64 f.till, .int .i64 f.count] 51)).alloc (.cells #[.int .i64 0, .int .i64 0, .int .i64 0, .int .i64 0, .int .i64 0, .int .i64 0, .int .i64 0, .int .i64 0, .int .i64 0, .int .i64 0, .int .i64 0, .int .i64 0, .int .i64 0, .bool false, .bool false, .int .i64 0, .int .i64 0] 51)).heap[w.heap.size]? = some (.cells #[.int .i64 f.orig.proto, .int .i64 f.orig.src, .int .i64 f.orig.sport, .int .i64 f.orig.dst, .int .i64 f.orig.dport, .int .i64 f.orig.kind, .int .i64 f.back.proto, .int .i64 f.back.src, .int .i64 f.back.sport, .int .i64 f.back.dst, .int .i64 f.back.dport, .int .i64 f.back.kind, .int .i64 f.state, .bool f.seen, .bool f.sure, .int .i64 f.till, .int .i64 f.count] 51)) := by
    show _ = _
    have := blk_alloc (heap_newG w (.cells #[.int .i64 f.orig.proto, .int .i64 f.orig.src, .int .i64 f.orig.sport, .int .i64 f.orig.dst, .int .i64 f.orig.dport, .int .i64 f.orig.kind, .int .i64 f.back.proto, .int .i64 f.back.src, .int .i64 f.back.sport, .int .i64 f.back.dst, .int .i64 f.back.dport, .int .i64 f.back.kind, .int .i64 f.state, .bool f.seen, .bool f.sure, .int .i64 f.till, .int .i64 f.count] 51)) (.cells #[.int .i64 0, .int .i64 0, .int .i64 0, .int .i64 0, .int .i64 0, .int .i64 0, .int .i64 0, .int .i64 0, .int .i64 0, .int .i64 0, .int .i64 0, .int .i64 0, .int .i64 0, .bool false, .bool false, .int .i64 0, .int .i64 0] 51)
    simpa using this
  have hGR0 : Hid (((w.alloc (.cells #[.int .i64 f.orig.proto, .int .i64 f.orig.src, .int .i64 f.orig.sport, .int .i64 f.orig.dst, .int .i64 f.orig.dport, .int .i64 f.orig.kind, .int .i64 f.back.proto, .int .i64 f.back.src, .int .i64 f.back.sport, .int .i64 f.back.dst, .int .i64 f.back.dport, .int .i64 f.back.kind, .int .i64 f.state, .bool f.seen, .bool f.sure, .int .i64 f.till, .int .i64 f.count] 51)).alloc (.cells #[.int .i64 0, .int .i64 0, .int .i64 0, .int .i64 0, .int .i64 0, .int .i64 0, .int .i64 0, .int .i64 0, .int .i64 0, .int .i64 0, .int .i64 0, .int .i64 0, .int .i64 0, .bool false, .bool false, .int .i64 0, .int .i64 0] 51)).heap[w.heap.size + 1]? = some (.cells #[.int .i64 0, .int .i64 0, .int .i64 0, .int .i64 0, .int .i64 0, .int .i64 0, .int .i64 0, .int .i64 0, .int .i64 0, .int .i64 0, .int .i64 0, .int .i64 0, .int .i64 0, .bool false, .bool false, .int .i64 0, .int .i64 0] 51)) := by
    show _ = _
    have := heap_newG (w.alloc (.cells #[.int .i64 f.orig.proto, .int .i64 f.orig.src, .int .i64 f.orig.sport, .int .i64 f.orig.dst, .int .i64 f.orig.dport, .int .i64 f.orig.kind, .int .i64 f.back.proto, .int .i64 f.back.src, .int .i64 f.back.sport, .int .i64 f.back.dst, .int .i64 f.back.dport, .int .i64 f.back.kind, .int .i64 f.state, .bool f.seen, .bool f.sure, .int .i64 f.till, .int .i64 f.count] 51)) (.cells #[.int .i64 0, .int .i64 0, .int .i64 0, .int .i64 0, .int .i64 0, .int .i64 0, .int .i64 0, .int .i64 0, .int .i64 0, .int .i64 0, .int .i64 0, .int .i64 0, .int .i64 0, .bool false, .bool false, .int .i64 0, .int .i64 0] 51)
    simpa using this
  have hL0 := hidS (((Below.refl w.heap.size w).alloc (Nat.le_refl _) (.cells #[.int .i64 f.orig.proto, .int .i64 f.orig.src, .int .i64 f.orig.sport, .int .i64 f.orig.dst, .int .i64 f.orig.dport, .int .i64 f.orig.kind, .int .i64 f.back.proto, .int .i64 f.back.src, .int .i64 f.back.sport, .int .i64 f.back.dst, .int .i64 f.back.dport, .int .i64 f.back.kind, .int .i64 f.state, .bool f.seen, .bool f.sure, .int .i64 f.till, .int .i64 f.count] 51)).alloc (by simp) (.cells #[.int .i64 0, .int .i64 0, .int .i64 0, .int .i64 0, .int .i64 0, .int .i64 0, .int .i64 0, .int .i64 0, .int .i64 0, .int .i64 0, .int .i64 0, .int .i64 0, .int .i64 0, .bool false, .bool false, .int .i64 0, .int .i64 0] 51))
  go_enter Try.func31, Try.ntmps31
  go_upto_region 1 with fail
  generalize ((w.alloc (.cells #[.int .i64 f.orig.proto, .int .i64 f.orig.src, .int .i64 f.orig.sport, .int .i64 f.orig.dst, .int .i64 f.orig.dport, .int .i64 f.orig.kind, .int .i64 f.back.proto, .int .i64 f.back.src, .int .i64 f.back.sport, .int .i64 f.back.dst, .int .i64 f.back.dport, .int .i64 f.back.kind, .int .i64 f.state, .bool f.seen, .bool f.sure, .int .i64 f.till, .int .i64 f.count] 51)).alloc (.cells #[.int .i64 0, .int .i64 0, .int .i64 0, .int .i64 0, .int .i64 0, .int .i64 0, .int .i64 0, .int .i64 0, .int .i64 0, .int .i64 0, .int .i64 0, .int .i64 0, .int .i64 0, .bool false, .bool false, .int .i64 0, .int .i64 0] 51)) = w0 at hGK0 hGR0 hL0 ⊢
  go_wp2_with (first | refine wpList_load_blk 51 (.tmp 2) rfl rfl rfl hGK0.out Try.underlying51 rfl (by kernel_rfl) ?_)
  refine (HL.out _).mono ?_
  rintro _ w1 ⟨rfl, hb1⟩
  have hGK1 := hidS (blk_later hGK0.out hb1)
  have hGR1 := hidS (blk_later hGR0.out hb1)
  have hL1 := hidS (hL0.out.trans (hb1.mono hL0.out.size))
  clear hb1 hL0 hGK0 hGR0
  generalize liveI f = l at *
  by_cases hm : 1000000 < now + l
  · have E2 : Hid (minN 1000000 (now + l) = 1000000) := by show _ = _; unfold minN; rw [if_pos hm]
    have cK0 := blk_cell hGK1.out 0
    have cK1 := blk_cell hGK1.out 1
    have cK2 := blk_cell hGK1.out 2
    have cK3 := blk_cell hGK1.out 3
    have cK4 := blk_cell hGK1.out 4
    have cK5 := blk_cell hGK1.out 5
    have cK6 := blk_cell hGK1.out 6
    have cK7 := blk_cell hGK1.out 7
    have cK8 := blk_cell hGK1.out 8
    have cK9 := blk_cell hGK1.out 9
    have cK10 := blk_cell hGK1.out 10
    have cK11 := blk_cell hGK1.out 11
    have cK12 := blk_cell hGK1.out 12
    have cK13 := blk_cell hGK1.out 13
    have cK14 := blk_cell hGK1.out 14
    have cK15 := blk_cell hGK1.out 15
    have cK16 := blk_cell hGK1.out 16
    simp at cK0 cK1 cK2 cK3 cK4 cK5 cK6 cK7 cK8 cK9 cK10 cK11 cK12 cK13 cK14 cK15 cK16
    have kK := blk_cell hGK1.out
    have fK := blk_free hGK1.out
    go_upto_region 3 with fail
    clear cK0 cK1 cK2 cK3 cK4 cK5 cK6 cK7 cK8 cK9 cK10 cK11 cK12 cK13 cK14 cK15 cK16 kK fK
    have hGK2 : Hid (((w1.setCell ⟨w.heap.size, 15, none⟩ (.int .i64 (1000000))).setCell ⟨w.heap.size, 16, none⟩ (.int .i64 (f.count + 1))).heap[w.heap.size]? = some (.cells #[.int .i64 f.orig.proto, .int .i64 f.orig.src, .int .i64 f.orig.sport, .int .i64 f.orig.dst, .int .i64 f.orig.dport, .int .i64 f.orig.kind, .int .i64 f.back.proto, .int .i64 f.back.src, .int .i64 f.back.sport, .int .i64 f.back.dst, .int .i64 f.back.dport, .int .i64 f.back.kind, .int .i64 f.state, .bool f.seen, .bool f.sure, .int .i64 (1000000), .int .i64 (f.count + 1)] 51)) := by
      have := (blk_set (blk_set hGK1.out 15 (.int .i64 (1000000))) 16 (.int .i64 (f.count + 1)))
      exact this
    have hGR2 := hidS (blk_other (B := w.heap.size) (blk_other (B := w.heap.size) hGR1.out (by omega) 15 (.int .i64 (1000000))) (by omega) 16 (.int .i64 (f.count + 1)))
    have hL2 := hidS (below_at (k := 16) (b := w.heap.size) (v := .int .i64 (f.count + 1)) (below_at (k := 15) (b := w.heap.size) (v := .int .i64 (1000000)) hL1.out (by omega)) (by omega))
    clear hL1 hGK1 hGR1
    generalize ((w1.setCell ⟨w.heap.size, 15, none⟩ (.int .i64 (1000000))).setCell ⟨w.heap.size, 16, none⟩ (.int .i64 (f.count + 1))) = w2 at hGK2 hGR2 hL2 ⊢
    refine plain_into 1 _ [.is (.agg #[.int .i64 f.orig.proto, .int .i64 f.orig.src, .int .i64 f.orig.sport, .int .i64 f.orig.dst, .int .i64 f.orig.dport, .int .i64 f.orig.kind, .int .i64 f.back.proto, .int .i64 f.back.src, .int .i64 f.back.sport, .int .i64 f.back.dst, .int .i64 f.back.dport, .int .i64 f.back.kind, .int .i64 f.state, .bool f.seen, .bool f.sure, .int .i64 (1000000), .int .i64 (f.count + 1)])] 0 4 15 51 51 (w.heap.size + 1) #[.int .i64 0, .int .i64 0, .int .i64 0, .int .i64 0, .int .i64 0, .int .i64 0, .int .i64 0, .int .i64 0, .int .i64 0, .int .i64 0, .int .i64 0, .int .i64 0, .int .i64 0, .bool false, .bool false, .int .i64 0, .int .i64 0] #[.int .i64 f.orig.proto, .int .i64 f.orig.src, .int .i64 f.orig.sport, .int .i64 f.orig.dst, .int .i64 f.orig.dport, .int .i64 f.orig.kind, .int .i64 f.back.proto, .int .i64 f.back.src, .int .i64 f.back.sport, .int .i64 f.back.dst, .int .i64 f.back.dport, .int .i64 f.back.kind, .int .i64 f.state, .bool f.seen, .bool f.sure, .int .i64 (1000000), .int .i64 (f.count + 1)] rfl rfl rfl (by kernel_rfl) (by kernel_rfl) (by kernel_rfl) rfl rfl (by decide) (by kernel_rfl) (by kernel_rfl) (by decide) hGR2.out (by kernel_rfl) (by kernel_rfl) (by first | kernel_rfl | simp [Value.oneCell']) (by kernel_rfl) ?stepsA_5 ?finA_5
    case stepsA_5 =>
      refine ⟨?_, trivial⟩
      · refine ⟨rfl, fun v W ρ hC kc kf ks ki kd => ?_⟩
        have t2 : ρ (.tmp 2) = .pointer (some ⟨w.heap.size, 0, none⟩) := ki 2 (by decide)
        simp only [execOp, t2, Sem.run_bind, loadAt_part (o := 0) [.int .i64 f.orig.proto, .int .i64 f.orig.src, .int .i64 f.orig.sport, .int .i64 f.orig.dst, .int .i64 f.orig.dport, .int .i64 f.orig.kind, .int .i64 f.back.proto, .int .i64 f.back.src, .int .i64 f.back.sport, .int .i64 f.back.dst, .int .i64 f.back.dport, .int .i64 f.back.kind, .int .i64 f.state, .bool f.seen, .bool f.sure, .int .i64 (1000000), .int .i64 (f.count + 1)] (blk_later hGK2.out hC) rfl Try.underlying51 rfl (by kernel_rfl), Result.andThen_ok, Sem.run_pure]
        exact ⟨hC, Below.refl _ _, rfl⟩
    intro vA_5 WA_5 hBA_5 hgA_5 hall
    simp [upto, Act.put]
    clear hall
    have hEA_5 := hidS (hL2.out.trans (hBA_5 w.heap.size (by omega)))
    have hcA_5 := loadVar_blk (P := Try.prog) hgA_5 Try.underlying51 rfl (by kernel_rfl)
    clear hBA_5 hgA_5 hL2 hGK2 hGR2
    go_wp2_with fail
    exact bodyPost_ret (v := .agg #[.int .i64 f.orig.proto, .int .i64 f.orig.src, .int .i64 f.orig.sport, .int .i64 f.orig.dst, .int .i64 f.orig.dport, .int .i64 f.orig.kind, .int .i64 f.back.proto, .int .i64 f.back.src, .int .i64 f.back.sport, .int .i64 f.back.dst, .int .i64 f.back.dport, .int .i64 f.back.kind, .int .i64 f.state, .bool f.seen, .bool f.sure, .int .i64 (1000000), .int .i64 (f.count + 1)]) (results_cell Try.results31 rfl hcA_5) rfl ⟨by rw [E.out, E2.out], hEA_5.out⟩
  have E2 : Hid (minN 1000000 (now + l) = now + l) := by show _ = _; unfold minN; rw [if_neg hm]
  have cK0 := blk_cell hGK1.out 0
  have cK1 := blk_cell hGK1.out 1
  have cK2 := blk_cell hGK1.out 2
  have cK3 := blk_cell hGK1.out 3
  have cK4 := blk_cell hGK1.out 4
  have cK5 := blk_cell hGK1.out 5
  have cK6 := blk_cell hGK1.out 6
  have cK7 := blk_cell hGK1.out 7
  have cK8 := blk_cell hGK1.out 8
  have cK9 := blk_cell hGK1.out 9
  have cK10 := blk_cell hGK1.out 10
  have cK11 := blk_cell hGK1.out 11
  have cK12 := blk_cell hGK1.out 12
  have cK13 := blk_cell hGK1.out 13
  have cK14 := blk_cell hGK1.out 14
  have cK15 := blk_cell hGK1.out 15
  have cK16 := blk_cell hGK1.out 16
  simp at cK0 cK1 cK2 cK3 cK4 cK5 cK6 cK7 cK8 cK9 cK10 cK11 cK12 cK13 cK14 cK15 cK16
  have kK := blk_cell hGK1.out
  have fK := blk_free hGK1.out
  go_upto_region 3 with fail
  clear cK0 cK1 cK2 cK3 cK4 cK5 cK6 cK7 cK8 cK9 cK10 cK11 cK12 cK13 cK14 cK15 cK16 kK fK
  have hGK2 : Hid (((w1.setCell ⟨w.heap.size, 15, none⟩ (.int .i64 (now + l))).setCell ⟨w.heap.size, 16, none⟩ (.int .i64 (f.count + 1))).heap[w.heap.size]? = some (.cells #[.int .i64 f.orig.proto, .int .i64 f.orig.src, .int .i64 f.orig.sport, .int .i64 f.orig.dst, .int .i64 f.orig.dport, .int .i64 f.orig.kind, .int .i64 f.back.proto, .int .i64 f.back.src, .int .i64 f.back.sport, .int .i64 f.back.dst, .int .i64 f.back.dport, .int .i64 f.back.kind, .int .i64 f.state, .bool f.seen, .bool f.sure, .int .i64 (now + l), .int .i64 (f.count + 1)] 51)) := by
    have := (blk_set (blk_set hGK1.out 15 (.int .i64 (now + l))) 16 (.int .i64 (f.count + 1)))
    exact this
  have hGR2 := hidS (blk_other (B := w.heap.size) (blk_other (B := w.heap.size) hGR1.out (by omega) 15 (.int .i64 (now + l))) (by omega) 16 (.int .i64 (f.count + 1)))
  have hL2 := hidS (below_at (k := 16) (b := w.heap.size) (v := .int .i64 (f.count + 1)) (below_at (k := 15) (b := w.heap.size) (v := .int .i64 (now + l)) hL1.out (by omega)) (by omega))
  clear hL1 hGK1 hGR1
  generalize ((w1.setCell ⟨w.heap.size, 15, none⟩ (.int .i64 (now + l))).setCell ⟨w.heap.size, 16, none⟩ (.int .i64 (f.count + 1))) = w2 at hGK2 hGR2 hL2 ⊢
  refine plain_into 1 _ [.is (.agg #[.int .i64 f.orig.proto, .int .i64 f.orig.src, .int .i64 f.orig.sport, .int .i64 f.orig.dst, .int .i64 f.orig.dport, .int .i64 f.orig.kind, .int .i64 f.back.proto, .int .i64 f.back.src, .int .i64 f.back.sport, .int .i64 f.back.dst, .int .i64 f.back.dport, .int .i64 f.back.kind, .int .i64 f.state, .bool f.seen, .bool f.sure, .int .i64 (now + l), .int .i64 (f.count + 1)])] 0 4 15 51 51 (w.heap.size + 1) #[.int .i64 0, .int .i64 0, .int .i64 0, .int .i64 0, .int .i64 0, .int .i64 0, .int .i64 0, .int .i64 0, .int .i64 0, .int .i64 0, .int .i64 0, .int .i64 0, .int .i64 0, .bool false, .bool false, .int .i64 0, .int .i64 0] #[.int .i64 f.orig.proto, .int .i64 f.orig.src, .int .i64 f.orig.sport, .int .i64 f.orig.dst, .int .i64 f.orig.dport, .int .i64 f.orig.kind, .int .i64 f.back.proto, .int .i64 f.back.src, .int .i64 f.back.sport, .int .i64 f.back.dst, .int .i64 f.back.dport, .int .i64 f.back.kind, .int .i64 f.state, .bool f.seen, .bool f.sure, .int .i64 (now + l), .int .i64 (f.count + 1)] rfl rfl rfl (by kernel_rfl) (by kernel_rfl) (by kernel_rfl) rfl rfl (by decide) (by kernel_rfl) (by kernel_rfl) (by decide) hGR2.out (by kernel_rfl) (by kernel_rfl) (by first | kernel_rfl | simp [Value.oneCell']) (by kernel_rfl) ?stepsA_6 ?finA_6
  case stepsA_6 =>
    refine ⟨?_, trivial⟩
    · refine ⟨rfl, fun v W ρ hC kc kf ks ki kd => ?_⟩
      have t2 : ρ (.tmp 2) = .pointer (some ⟨w.heap.size, 0, none⟩) := ki 2 (by decide)
      simp only [execOp, t2, Sem.run_bind, loadAt_part (o := 0) [.int .i64 f.orig.proto, .int .i64 f.orig.src, .int .i64 f.orig.sport, .int .i64 f.orig.dst, .int .i64 f.orig.dport, .int .i64 f.orig.kind, .int .i64 f.back.proto, .int .i64 f.back.src, .int .i64 f.back.sport, .int .i64 f.back.dst, .int .i64 f.back.dport, .int .i64 f.back.kind, .int .i64 f.state, .bool f.seen, .bool f.sure, .int .i64 (now + l), .int .i64 (f.count + 1)] (blk_later hGK2.out hC) rfl Try.underlying51 rfl (by kernel_rfl), Result.andThen_ok, Sem.run_pure]
      exact ⟨hC, Below.refl _ _, rfl⟩
  intro vA_6 WA_6 hBA_6 hgA_6 hall
  simp [upto, Act.put]
  clear hall
  have hEA_6 := hidS (hL2.out.trans (hBA_6 w.heap.size (by omega)))
  have hcA_6 := loadVar_blk (P := Try.prog) hgA_6 Try.underlying51 rfl (by kernel_rfl)
  clear hBA_6 hgA_6 hL2 hGK2 hGR2
  go_wp2_with fail
  exact bodyPost_ret (v := .agg #[.int .i64 f.orig.proto, .int .i64 f.orig.src, .int .i64 f.orig.sport, .int .i64 f.orig.dst, .int .i64 f.orig.dport, .int .i64 f.orig.kind, .int .i64 f.back.proto, .int .i64 f.back.src, .int .i64 f.back.sport, .int .i64 f.back.dst, .int .i64 f.back.dport, .int .i64 f.back.kind, .int .i64 f.state, .bool f.seen, .bool f.sure, .int .i64 (now + l), .int .i64 (f.count + 1)]) (results_cell Try.results31 rfl hcA_6) rfl ⟨by rw [E.out, E2.out], hEA_6.out⟩
set_option maxHeartbeats 4000000 in
theorem ledTo_any (f : Fl) (s : Int) (b : Bool) (now : Int) (w : World) (h0 : 0 ≤ now ∧ now ≤ 1000000) (hc : 0 ≤ f.count ∧ f.count ≤ 1000000) : Calls Try.prog 38 #[.agg #[.int .i64 f.orig.proto, .int .i64 f.orig.src, .int .i64 f.orig.sport, .int .i64 f.orig.dst, .int .i64 f.orig.dport, .int .i64 f.orig.kind, .int .i64 f.back.proto, .int .i64 f.back.src, .int .i64 f.back.sport, .int .i64 f.back.dst, .int .i64 f.back.dport, .int .i64 f.back.kind, .int .i64 f.state, .bool f.seen, .bool f.sure, .int .i64 f.till, .int .i64 f.count], .int .i64 s, .bool b, .int .i64 now] w fun e w' => e = .returned (.agg #[.int .i64 (counted (ledTo f s b) now).orig.proto, .int .i64 (counted (ledTo f s b) now).orig.src, .int .i64 (counted (ledTo f s b) now).orig.sport, .int .i64 (counted (ledTo f s b) now).orig.dst, .int .i64 (counted (ledTo f s b) now).orig.dport, .int .i64 (counted (ledTo f s b) now).orig.kind, .int .i64 (counted (ledTo f s b) now).back.proto, .int .i64 (counted (ledTo f s b) now).back.src, .int .i64 (counted (ledTo f s b) now).back.sport, .int .i64 (counted (ledTo f s b) now).back.dst, .int .i64 (counted (ledTo f s b) now).back.dport, .int .i64 (counted (ledTo f s b) now).back.kind, .int .i64 (counted (ledTo f s b) now).state, .bool (counted (ledTo f s b) now).seen, .bool (counted (ledTo f s b) now).sure, .int .i64 (counted (ledTo f s b) now).till, .int .i64 (counted (ledTo f s b) now).count]) ∧ Below w.heap.size w w' := by
  obtain ⟨fo, fb, fs, fn, fu, ft, fc⟩ := f
  have HB := hidS (fun n W => isAssuredBy_any ⟨fo, fb, s, n, fu, ft, fc⟩ b W)
  have HC := hidS (fun n u W => counted_any ⟨fo, fb, s, n, u, ft, fc⟩ now W h0 hc)
  have E : Hid (ledTo ⟨fo, fb, fs, fn, fu, ft, fc⟩ s b = ⟨fo, fb, s, fn || b, fu || byB ⟨fo, fb, s, fn || b, fu, ft, fc⟩ b, ft, fc⟩) := rfl
  clear h0 hc
  have hGK0 : Hid (((w.alloc (.cells #[.int .i64 fo.proto, .int .i64 fo.src, .int .i64 fo.sport, .int .i64 fo.dst, .int .i64 fo.dport, .int .i64 fo.kind, .int .i64 fb.proto, .int .i64 fb.src, .int .i64 fb.sport, .int .i64 fb.dst, .int .i64 fb.dport, .int .i64 fb.kind, .int .i64 fs, .bool fn, .bool fu, .int .i64 ft, .int .i64 fc] 51)).alloc (.cells #[.int .i64 0, .int .i64 0, .int .i64 0, .int .i64 0, .int .i64 0, .int .i64 0, .int .i64 0, .int .i64 0, .int .i64 0, .int .i64 0, .int .i64 0, .int .i64 0, .int .i64 0, .bool false, .bool false, .int .i64 0, .int .i64 0] 51)).heap[w.heap.size]? = some (.cells #[.int .i64 fo.proto, .int .i64 fo.src, .int .i64 fo.sport, .int .i64 fo.dst, .int .i64 fo.dport, .int .i64 fo.kind, .int .i64 fb.proto, .int .i64 fb.src, .int .i64 fb.sport, .int .i64 fb.dst, .int .i64 fb.dport, .int .i64 fb.kind, .int .i64 fs, .bool fn, .bool fu, .int .i64 ft, .int .i64 fc] 51)) := by
    show _ = _
    have := blk_alloc (heap_newG w (.cells #[.int .i64 fo.proto, .int .i64 fo.src, .int .i64 fo.sport, .int .i64 fo.dst, .int .i64 fo.dport, .int .i64 fo.kind, .int .i64 fb.proto, .int .i64 fb.src, .int .i64 fb.sport, .int .i64 fb.dst, .int .i64 fb.dport, .int .i64 fb.kind, .int .i64 fs, .bool fn, .bool fu, .int .i64 ft, .int .i64 fc] 51)) (.cells #[.int .i64 0, .int .i64 0, .int .i64 0, .int .i64 0, .int .i64 0, .int .i64 0, .int .i64 0, .int .i64 0, .int .i64 0, .int .i64 0, .int .i64 0, .int .i64 0, .int .i64 0, .bool false, .bool false, .int .i64 0, .int .i64 0] 51)
    simpa using this
  have hGR0 : Hid (((w.alloc (.cells #[.int .i64 fo.proto, .int .i64 fo.src, .int .i64 fo.sport, .int .i64 fo.dst, .int .i64 fo.dport, .int .i64 fo.kind, .int .i64 fb.proto, .int .i64 fb.src, .int .i64 fb.sport, .int .i64 fb.dst, .int .i64 fb.dport, .int .i64 fb.kind, .int .i64 fs, .bool fn, .bool fu, .int .i64 ft, .int .i64 fc] 51)).alloc (.cells #[.int .i64 0, .int .i64 0, .int .i64 0, .int .i64 0, .int .i64 0, .int .i64 0, .int .i64 0, .int .i64 0, .int .i64 0, .int .i64 0, .int .i64 0, .int .i64 0, .int .i64 0, .bool false, .bool false, .int .i64 0, .int .i64 0] 51)).heap[w.heap.size + 1]? = some (.cells #[.int .i64 0, .int .i64 0, .int .i64 0, .int .i64 0, .int .i64 0, .int .i64 0, .int .i64 0, .int .i64 0, .int .i64 0, .int .i64 0, .int .i64 0, .int .i64 0, .int .i64 0, .bool false, .bool false, .int .i64 0, .int .i64 0] 51)) := by
    show _ = _
    have := heap_newG (w.alloc (.cells #[.int .i64 fo.proto, .int .i64 fo.src, .int .i64 fo.sport, .int .i64 fo.dst, .int .i64 fo.dport, .int .i64 fo.kind, .int .i64 fb.proto, .int .i64 fb.src, .int .i64 fb.sport, .int .i64 fb.dst, .int .i64 fb.dport, .int .i64 fb.kind, .int .i64 fs, .bool fn, .bool fu, .int .i64 ft, .int .i64 fc] 51)) (.cells #[.int .i64 0, .int .i64 0, .int .i64 0, .int .i64 0, .int .i64 0, .int .i64 0, .int .i64 0, .int .i64 0, .int .i64 0, .int .i64 0, .int .i64 0, .int .i64 0, .int .i64 0, .bool false, .bool false, .int .i64 0, .int .i64 0] 51)
    simpa using this
  have hL0 := hidS (((Below.refl w.heap.size w).alloc (Nat.le_refl _) (.cells #[.int .i64 fo.proto, .int .i64 fo.src, .int .i64 fo.sport, .int .i64 fo.dst, .int .i64 fo.dport, .int .i64 fo.kind, .int .i64 fb.proto, .int .i64 fb.src, .int .i64 fb.sport, .int .i64 fb.dst, .int .i64 fb.dport, .int .i64 fb.kind, .int .i64 fs, .bool fn, .bool fu, .int .i64 ft, .int .i64 fc] 51)).alloc (by simp) (.cells #[.int .i64 0, .int .i64 0, .int .i64 0, .int .i64 0, .int .i64 0, .int .i64 0, .int .i64 0, .int .i64 0, .int .i64 0, .int .i64 0, .int .i64 0, .int .i64 0, .int .i64 0, .bool false, .bool false, .int .i64 0, .int .i64 0] 51))
  go_enter Try.func38, Try.ntmps38
  go_upto_region 1 with fail
  generalize ((w.alloc (.cells #[.int .i64 fo.proto, .int .i64 fo.src, .int .i64 fo.sport, .int .i64 fo.dst, .int .i64 fo.dport, .int .i64 fo.kind, .int .i64 fb.proto, .int .i64 fb.src, .int .i64 fb.sport, .int .i64 fb.dst, .int .i64 fb.dport, .int .i64 fb.kind, .int .i64 fs, .bool fn, .bool fu, .int .i64 ft, .int .i64 fc] 51)).alloc (.cells #[.int .i64 0, .int .i64 0, .int .i64 0, .int .i64 0, .int .i64 0, .int .i64 0, .int .i64 0, .int .i64 0, .int .i64 0, .int .i64 0, .int .i64 0, .int .i64 0, .int .i64 0, .bool false, .bool false, .int .i64 0, .int .i64 0] 51)) = w0 at hGK0 hGR0 hL0 ⊢
  cases fn
  · have cK0 := blk_cell hGK0.out 0
    have cK1 := blk_cell hGK0.out 1
    have cK2 := blk_cell hGK0.out 2
    have cK3 := blk_cell hGK0.out 3
    have cK4 := blk_cell hGK0.out 4
    have cK5 := blk_cell hGK0.out 5
    have cK6 := blk_cell hGK0.out 6
    have cK7 := blk_cell hGK0.out 7
    have cK8 := blk_cell hGK0.out 8
    have cK9 := blk_cell hGK0.out 9
    have cK10 := blk_cell hGK0.out 10
    have cK11 := blk_cell hGK0.out 11
    have cK12 := blk_cell hGK0.out 12
    have cK13 := blk_cell hGK0.out 13
    have cK14 := blk_cell hGK0.out 14
    have cK15 := blk_cell hGK0.out 15
    have cK16 := blk_cell hGK0.out 16
    simp at cK0 cK1 cK2 cK3 cK4 cK5 cK6 cK7 cK8 cK9 cK10 cK11 cK12 cK13 cK14 cK15 cK16
    have kK := blk_cell hGK0.out
    have fK := blk_free hGK0.out
    go_upto_region 3 with fail
    clear cK0 cK1 cK2 cK3 cK4 cK5 cK6 cK7 cK8 cK9 cK10 cK11 cK12 cK13 cK14 cK15 cK16 kK fK
    have hGK1 : Hid (((w0.setCell ⟨w.heap.size, 12, none⟩ (.int .i64 s)).setCell ⟨w.heap.size, 13, none⟩ (.bool b)).heap[w.heap.size]? = some (.cells #[.int .i64 fo.proto, .int .i64 fo.src, .int .i64 fo.sport, .int .i64 fo.dst, .int .i64 fo.dport, .int .i64 fo.kind, .int .i64 fb.proto, .int .i64 fb.src, .int .i64 fb.sport, .int .i64 fb.dst, .int .i64 fb.dport, .int .i64 fb.kind, .int .i64 s, .bool b, .bool fu, .int .i64 ft, .int .i64 fc] 51)) := by
      have := (blk_set (blk_set hGK0.out 12 (.int .i64 s)) 13 (.bool b))
      exact this
    have hGR1 := hidS (blk_other (B := w.heap.size) (blk_other (B := w.heap.size) hGR0.out (by omega) 12 (.int .i64 s)) (by omega) 13 (.bool b))
    have hL1 := hidS (below_at (k := 13) (b := w.heap.size) (v := .bool b) (below_at (k := 12) (b := w.heap.size) (v := .int .i64 s) hL0.out (by omega)) (by omega))
    clear hL0 hGK0 hGR0
    generalize ((w0.setCell ⟨w.heap.size, 12, none⟩ (.int .i64 s)).setCell ⟨w.heap.size, 13, none⟩ (.bool b)) = w1 at hGK1 hGR1 hL1 ⊢
    cases fu
    · have cK0 := blk_cell hGK1.out 0
      have cK1 := blk_cell hGK1.out 1
      have cK2 := blk_cell hGK1.out 2
      have cK3 := blk_cell hGK1.out 3
      have cK4 := blk_cell hGK1.out 4
      have cK5 := blk_cell hGK1.out 5
      have cK6 := blk_cell hGK1.out 6
      have cK7 := blk_cell hGK1.out 7
      have cK8 := blk_cell hGK1.out 8
      have cK9 := blk_cell hGK1.out 9
      have cK10 := blk_cell hGK1.out 10
      have cK11 := blk_cell hGK1.out 11
      have cK12 := blk_cell hGK1.out 12
      have cK13 := blk_cell hGK1.out 13
      have cK14 := blk_cell hGK1.out 14
      have cK15 := blk_cell hGK1.out 15
      have cK16 := blk_cell hGK1.out 16
      simp at cK0 cK1 cK2 cK3 cK4 cK5 cK6 cK7 cK8 cK9 cK10 cK11 cK12 cK13 cK14 cK15 cK16
      have kK := blk_cell hGK1.out
      have fK := blk_free hGK1.out
      go_wp2_with (first | refine wpList_load_blk 51 (.tmp 4) rfl rfl rfl hGK1.out Try.underlying51 rfl (by kernel_rfl) ?_)
      refine (HB.out b _).mono ?_
      rintro _ w2 ⟨rfl, hb2⟩
      clear cK0 cK1 cK2 cK3 cK4 cK5 cK6 cK7 cK8 cK9 cK10 cK11 cK12 cK13 cK14 cK15 cK16 kK fK
      have hGK2 := hidS (blk_later hGK1.out hb2)
      have hGR2 := hidS (blk_later hGR1.out hb2)
      have hL2 := hidS (hL1.out.trans (hb2.mono hL1.out.size))
      clear hb2 hL1 hGK1 hGR1
      have E2 : Hid (ledTo ⟨fo, fb, fs, false, false, ft, fc⟩ s b = ⟨fo, fb, s, b, byB ⟨fo, fb, s, b, false, ft, fc⟩ b, ft, fc⟩) := by show _ = _; rw [E.out]; simp
      clear E
      generalize hy : byB ⟨fo, fb, s, b, false, ft, fc⟩ b = y at *
      have kK := blk_cell hGK2.out
      have fK := blk_free hGK2.out
      go_upto_region 4 with fail
      clear kK fK
      have hGK3 : Hid ((w2.setCell ⟨w.heap.size, 14, none⟩ (.bool y)).heap[w.heap.size]? = some (.cells #[.int .i64 fo.proto, .int .i64 fo.src, .int .i64 fo.sport, .int .i64 fo.dst, .int .i64 fo.dport, .int .i64 fo.kind, .int .i64 fb.proto, .int .i64 fb.src, .int .i64 fb.sport, .int .i64 fb.dst, .int .i64 fb.dport, .int .i64 fb.kind, .int .i64 s, .bool b, .bool y, .int .i64 ft, .int .i64 fc] 51)) := by
        have := (blk_set hGK2.out 14 (.bool y))
        exact this
      have hGR3 := hidS (blk_other (B := w.heap.size) hGR2.out (by omega) 14 (.bool y))
      have hL3 := hidS (below_at (k := 14) (b := w.heap.size) (v := .bool y) hL2.out (by omega))
      clear hL2 hGK2 hGR2
      generalize (w2.setCell ⟨w.heap.size, 14, none⟩ (.bool y)) = w3 at hGK3 hGR3 hL3 ⊢
      refine plain_into 3 _ [.is (.agg #[.int .i64 fo.proto, .int .i64 fo.src, .int .i64 fo.sport, .int .i64 fo.dst, .int .i64 fo.dport, .int .i64 fo.kind, .int .i64 fb.proto, .int .i64 fb.src, .int .i64 fb.sport, .int .i64 fb.dst, .int .i64 fb.dport, .int .i64 fb.kind, .int .i64 s, .bool b, .bool y, .int .i64 ft, .int .i64 fc]), .is (.int .i64 now), .is (.agg #[.int .i64 (counted ⟨fo, fb, s, b, y, ft, fc⟩ now).orig.proto, .int .i64 (counted ⟨fo, fb, s, b, y, ft, fc⟩ now).orig.src, .int .i64 (counted ⟨fo, fb, s, b, y, ft, fc⟩ now).orig.sport, .int .i64 (counted ⟨fo, fb, s, b, y, ft, fc⟩ now).orig.dst, .int .i64 (counted ⟨fo, fb, s, b, y, ft, fc⟩ now).orig.dport, .int .i64 (counted ⟨fo, fb, s, b, y, ft, fc⟩ now).orig.kind, .int .i64 (counted ⟨fo, fb, s, b, y, ft, fc⟩ now).back.proto, .int .i64 (counted ⟨fo, fb, s, b, y, ft, fc⟩ now).back.src, .int .i64 (counted ⟨fo, fb, s, b, y, ft, fc⟩ now).back.sport, .int .i64 (counted ⟨fo, fb, s, b, y, ft, fc⟩ now).back.dst, .int .i64 (counted ⟨fo, fb, s, b, y, ft, fc⟩ now).back.dport, .int .i64 (counted ⟨fo, fb, s, b, y, ft, fc⟩ now).back.kind, .int .i64 (counted ⟨fo, fb, s, b, y, ft, fc⟩ now).state, .bool (counted ⟨fo, fb, s, b, y, ft, fc⟩ now).seen, .bool (counted ⟨fo, fb, s, b, y, ft, fc⟩ now).sure, .int .i64 (counted ⟨fo, fb, s, b, y, ft, fc⟩ now).till, .int .i64 (counted ⟨fo, fb, s, b, y, ft, fc⟩ now).count])] 2 8 27 51 51 (w.heap.size + 1) #[.int .i64 0, .int .i64 0, .int .i64 0, .int .i64 0, .int .i64 0, .int .i64 0, .int .i64 0, .int .i64 0, .int .i64 0, .int .i64 0, .int .i64 0, .int .i64 0, .int .i64 0, .bool false, .bool false, .int .i64 0, .int .i64 0] #[.int .i64 (counted ⟨fo, fb, s, b, y, ft, fc⟩ now).orig.proto, .int .i64 (counted ⟨fo, fb, s, b, y, ft, fc⟩ now).orig.src, .int .i64 (counted ⟨fo, fb, s, b, y, ft, fc⟩ now).orig.sport, .int .i64 (counted ⟨fo, fb, s, b, y, ft, fc⟩ now).orig.dst, .int .i64 (counted ⟨fo, fb, s, b, y, ft, fc⟩ now).orig.dport, .int .i64 (counted ⟨fo, fb, s, b, y, ft, fc⟩ now).orig.kind, .int .i64 (counted ⟨fo, fb, s, b, y, ft, fc⟩ now).back.proto, .int .i64 (counted ⟨fo, fb, s, b, y, ft, fc⟩ now).back.src, .int .i64 (counted ⟨fo, fb, s, b, y, ft, fc⟩ now).back.sport, .int .i64 (counted ⟨fo, fb, s, b, y, ft, fc⟩ now).back.dst, .int .i64 (counted ⟨fo, fb, s, b, y, ft, fc⟩ now).back.dport, .int .i64 (counted ⟨fo, fb, s, b, y, ft, fc⟩ now).back.kind, .int .i64 (counted ⟨fo, fb, s, b, y, ft, fc⟩ now).state, .bool (counted ⟨fo, fb, s, b, y, ft, fc⟩ now).seen, .bool (counted ⟨fo, fb, s, b, y, ft, fc⟩ now).sure, .int .i64 (counted ⟨fo, fb, s, b, y, ft, fc⟩ now).till, .int .i64 (counted ⟨fo, fb, s, b, y, ft, fc⟩ now).count] rfl rfl rfl (by kernel_rfl) (by kernel_rfl) (by kernel_rfl) rfl rfl (by decide) (by kernel_rfl) (by kernel_rfl) (by decide) hGR3.out (by kernel_rfl) (by kernel_rfl) (by first | kernel_rfl | simp [Value.oneCell']) (by kernel_rfl) ?stepsA_7 ?finA_7
      case stepsA_7 =>
        refine ⟨?_, ?_, ?_, trivial⟩
        · refine ⟨rfl, fun v W ρ hC kc kf ks ki kd => ?_⟩
          have t4 : ρ (.tmp 4) = .pointer (some ⟨w.heap.size, 0, none⟩) := ki 4 (by decide)
          simp only [execOp, t4, Sem.run_bind, loadAt_part (o := 0) [.int .i64 fo.proto, .int .i64 fo.src, .int .i64 fo.sport, .int .i64 fo.dst, .int .i64 fo.dport, .int .i64 fo.kind, .int .i64 fb.proto, .int .i64 fb.src, .int .i64 fb.sport, .int .i64 fb.dst, .int .i64 fb.dport, .int .i64 fb.kind, .int .i64 s, .bool b, .bool y, .int .i64 ft, .int .i64 fc] (blk_later hGK3.out hC) rfl Try.underlying51 rfl (by kernel_rfl), Result.andThen_ok, Sem.run_pure]
          exact ⟨hC, Below.refl _ _, rfl⟩
        · refine ⟨rfl, fun v W ρ hC kc kf ks ki kd => ?_⟩
          have t3 : ρ (.tmp 3) = .int .i64 now := ki 3 (by decide)
          simp [execOp, go_sem, kc, t3]
          exact ⟨hC, Below.refl _ _, rfl⟩
        · refine ⟨rfl, fun v W ρ hC kc kf ks ki kd => ?_⟩
          have d0 : v 0 = .agg #[.int .i64 fo.proto, .int .i64 fo.src, .int .i64 fo.sport, .int .i64 fo.dst, .int .i64 fo.dport, .int .i64 fo.kind, .int .i64 fb.proto, .int .i64 fb.src, .int .i64 fb.sport, .int .i64 fb.dst, .int .i64 fb.dport, .int .i64 fb.kind, .int .i64 s, .bool b, .bool y, .int .i64 ft, .int .i64 fc] := by first | exact kd _ (mem0 rfl) rfl | exact kd _ (mem1 rfl) rfl | exact kd _ (mem2 rfl) rfl | exact kd _ (mem3 rfl) rfl | exact kd _ (mem4 rfl) rfl | exact kd _ (mem5 rfl) rfl | exact kd _ (Array.mem_of_getElem? (i := 6) rfl) rfl | exact kd _ (Array.mem_of_getElem? (i := 7) rfl) rfl
          have t25 : ρ (.tmp 25) = .agg #[.int .i64 fo.proto, .int .i64 fo.src, .int .i64 fo.sport, .int .i64 fo.dst, .int .i64 fo.dport, .int .i64 fo.kind, .int .i64 fb.proto, .int .i64 fb.src, .int .i64 fb.sport, .int .i64 fb.dst, .int .i64 fb.dport, .int .i64 fb.kind, .int .i64 s, .bool b, .bool y, .int .i64 ft, .int .i64 fc] := (ks 0 25 (by decide) rfl).trans d0
          have d1 : v 1 = .int .i64 now := by first | exact kd _ (mem0 rfl) rfl | exact kd _ (mem1 rfl) rfl | exact kd _ (mem2 rfl) rfl | exact kd _ (mem3 rfl) rfl | exact kd _ (mem4 rfl) rfl | exact kd _ (mem5 rfl) rfl | exact kd _ (Array.mem_of_getElem? (i := 6) rfl) rfl | exact kd _ (Array.mem_of_getElem? (i := 7) rfl) rfl
          have t26 : ρ (.tmp 26) = .int .i64 now := (ks 1 26 (by decide) rfl).trans d1
          simp [execOp, go_sem, kc, t25, t26, kf]
          exact Calls.mono (HC.out b y W) (fun e x h => ⟨_, h.1, hC.trans (h.2.mono hC.size), h.2, rfl⟩)
      intro vA_7 WA_7 hBA_7 hgA_7 hall
      simp [upto, Act.put]
      clear hall
      have hEA_7 := hidS (hL3.out.trans (hBA_7 w.heap.size (by omega)))
      have hcA_7 := loadVar_blk (P := Try.prog) hgA_7 Try.underlying51 rfl (by kernel_rfl)
      clear hBA_7 hgA_7 hL3 hGK3 hGR3
      go_wp2_with fail
      exact bodyPost_ret (v := .agg #[.int .i64 (counted ⟨fo, fb, s, b, y, ft, fc⟩ now).orig.proto, .int .i64 (counted ⟨fo, fb, s, b, y, ft, fc⟩ now).orig.src, .int .i64 (counted ⟨fo, fb, s, b, y, ft, fc⟩ now).orig.sport, .int .i64 (counted ⟨fo, fb, s, b, y, ft, fc⟩ now).orig.dst, .int .i64 (counted ⟨fo, fb, s, b, y, ft, fc⟩ now).orig.dport, .int .i64 (counted ⟨fo, fb, s, b, y, ft, fc⟩ now).orig.kind, .int .i64 (counted ⟨fo, fb, s, b, y, ft, fc⟩ now).back.proto, .int .i64 (counted ⟨fo, fb, s, b, y, ft, fc⟩ now).back.src, .int .i64 (counted ⟨fo, fb, s, b, y, ft, fc⟩ now).back.sport, .int .i64 (counted ⟨fo, fb, s, b, y, ft, fc⟩ now).back.dst, .int .i64 (counted ⟨fo, fb, s, b, y, ft, fc⟩ now).back.dport, .int .i64 (counted ⟨fo, fb, s, b, y, ft, fc⟩ now).back.kind, .int .i64 (counted ⟨fo, fb, s, b, y, ft, fc⟩ now).state, .bool (counted ⟨fo, fb, s, b, y, ft, fc⟩ now).seen, .bool (counted ⟨fo, fb, s, b, y, ft, fc⟩ now).sure, .int .i64 (counted ⟨fo, fb, s, b, y, ft, fc⟩ now).till, .int .i64 (counted ⟨fo, fb, s, b, y, ft, fc⟩ now).count]) (results_cell Try.results38 rfl hcA_7) rfl ⟨by rw [E2.out], hEA_7.out⟩
    have cK0 := blk_cell hGK1.out 0
    have cK1 := blk_cell hGK1.out 1
    have cK2 := blk_cell hGK1.out 2
    have cK3 := blk_cell hGK1.out 3
    have cK4 := blk_cell hGK1.out 4
    have cK5 := blk_cell hGK1.out 5
    have cK6 := blk_cell hGK1.out 6
    have cK7 := blk_cell hGK1.out 7
    have cK8 := blk_cell hGK1.out 8
    have cK9 := blk_cell hGK1.out 9
    have cK10 := blk_cell hGK1.out 10
    have cK11 := blk_cell hGK1.out 11
    have cK12 := blk_cell hGK1.out 12
    have cK13 := blk_cell hGK1.out 13
    have cK14 := blk_cell hGK1.out 14
    have cK15 := blk_cell hGK1.out 15
    have cK16 := blk_cell hGK1.out 16
    simp at cK0 cK1 cK2 cK3 cK4 cK5 cK6 cK7 cK8 cK9 cK10 cK11 cK12 cK13 cK14 cK15 cK16
    have kK := blk_cell hGK1.out
    have fK := blk_free hGK1.out
    go_upto_region 4 with fail
    clear cK0 cK1 cK2 cK3 cK4 cK5 cK6 cK7 cK8 cK9 cK10 cK11 cK12 cK13 cK14 cK15 cK16 kK fK
    have hGK2 : Hid ((w1.setCell ⟨w.heap.size, 14, none⟩ (.bool true)).heap[w.heap.size]? = some (.cells #[.int .i64 fo.proto, .int .i64 fo.src, .int .i64 fo.sport, .int .i64 fo.dst, .int .i64 fo.dport, .int .i64 fo.kind, .int .i64 fb.proto, .int .i64 fb.src, .int .i64 fb.sport, .int .i64 fb.dst, .int .i64 fb.dport, .int .i64 fb.kind, .int .i64 s, .bool b, .bool true, .int .i64 ft, .int .i64 fc] 51)) := by
      have := (blk_set hGK1.out 14 (.bool true))
      exact this
    have hGR2 := hidS (blk_other (B := w.heap.size) hGR1.out (by omega) 14 (.bool true))
    have hL2 := hidS (below_at (k := 14) (b := w.heap.size) (v := .bool true) hL1.out (by omega))
    clear hL1 hGK1 hGR1
    generalize (w1.setCell ⟨w.heap.size, 14, none⟩ (.bool true)) = w2 at hGK2 hGR2 hL2 ⊢
    refine plain_into 3 _ [.is (.agg #[.int .i64 fo.proto, .int .i64 fo.src, .int .i64 fo.sport, .int .i64 fo.dst, .int .i64 fo.dport, .int .i64 fo.kind, .int .i64 fb.proto, .int .i64 fb.src, .int .i64 fb.sport, .int .i64 fb.dst, .int .i64 fb.dport, .int .i64 fb.kind, .int .i64 s, .bool b, .bool true, .int .i64 ft, .int .i64 fc]), .is (.int .i64 now), .is (.agg #[.int .i64 (counted ⟨fo, fb, s, b, true, ft, fc⟩ now).orig.proto, .int .i64 (counted ⟨fo, fb, s, b, true, ft, fc⟩ now).orig.src, .int .i64 (counted ⟨fo, fb, s, b, true, ft, fc⟩ now).orig.sport, .int .i64 (counted ⟨fo, fb, s, b, true, ft, fc⟩ now).orig.dst, .int .i64 (counted ⟨fo, fb, s, b, true, ft, fc⟩ now).orig.dport, .int .i64 (counted ⟨fo, fb, s, b, true, ft, fc⟩ now).orig.kind, .int .i64 (counted ⟨fo, fb, s, b, true, ft, fc⟩ now).back.proto, .int .i64 (counted ⟨fo, fb, s, b, true, ft, fc⟩ now).back.src, .int .i64 (counted ⟨fo, fb, s, b, true, ft, fc⟩ now).back.sport, .int .i64 (counted ⟨fo, fb, s, b, true, ft, fc⟩ now).back.dst, .int .i64 (counted ⟨fo, fb, s, b, true, ft, fc⟩ now).back.dport, .int .i64 (counted ⟨fo, fb, s, b, true, ft, fc⟩ now).back.kind, .int .i64 (counted ⟨fo, fb, s, b, true, ft, fc⟩ now).state, .bool (counted ⟨fo, fb, s, b, true, ft, fc⟩ now).seen, .bool (counted ⟨fo, fb, s, b, true, ft, fc⟩ now).sure, .int .i64 (counted ⟨fo, fb, s, b, true, ft, fc⟩ now).till, .int .i64 (counted ⟨fo, fb, s, b, true, ft, fc⟩ now).count])] 2 8 27 51 51 (w.heap.size + 1) #[.int .i64 0, .int .i64 0, .int .i64 0, .int .i64 0, .int .i64 0, .int .i64 0, .int .i64 0, .int .i64 0, .int .i64 0, .int .i64 0, .int .i64 0, .int .i64 0, .int .i64 0, .bool false, .bool false, .int .i64 0, .int .i64 0] #[.int .i64 (counted ⟨fo, fb, s, b, true, ft, fc⟩ now).orig.proto, .int .i64 (counted ⟨fo, fb, s, b, true, ft, fc⟩ now).orig.src, .int .i64 (counted ⟨fo, fb, s, b, true, ft, fc⟩ now).orig.sport, .int .i64 (counted ⟨fo, fb, s, b, true, ft, fc⟩ now).orig.dst, .int .i64 (counted ⟨fo, fb, s, b, true, ft, fc⟩ now).orig.dport, .int .i64 (counted ⟨fo, fb, s, b, true, ft, fc⟩ now).orig.kind, .int .i64 (counted ⟨fo, fb, s, b, true, ft, fc⟩ now).back.proto, .int .i64 (counted ⟨fo, fb, s, b, true, ft, fc⟩ now).back.src, .int .i64 (counted ⟨fo, fb, s, b, true, ft, fc⟩ now).back.sport, .int .i64 (counted ⟨fo, fb, s, b, true, ft, fc⟩ now).back.dst, .int .i64 (counted ⟨fo, fb, s, b, true, ft, fc⟩ now).back.dport, .int .i64 (counted ⟨fo, fb, s, b, true, ft, fc⟩ now).back.kind, .int .i64 (counted ⟨fo, fb, s, b, true, ft, fc⟩ now).state, .bool (counted ⟨fo, fb, s, b, true, ft, fc⟩ now).seen, .bool (counted ⟨fo, fb, s, b, true, ft, fc⟩ now).sure, .int .i64 (counted ⟨fo, fb, s, b, true, ft, fc⟩ now).till, .int .i64 (counted ⟨fo, fb, s, b, true, ft, fc⟩ now).count] rfl rfl rfl (by kernel_rfl) (by kernel_rfl) (by kernel_rfl) rfl rfl (by decide) (by kernel_rfl) (by kernel_rfl) (by decide) hGR2.out (by kernel_rfl) (by kernel_rfl) (by first | kernel_rfl | simp [Value.oneCell']) (by kernel_rfl) ?stepsA_8 ?finA_8
    case stepsA_8 =>
      refine ⟨?_, ?_, ?_, trivial⟩
      · refine ⟨rfl, fun v W ρ hC kc kf ks ki kd => ?_⟩
        have t4 : ρ (.tmp 4) = .pointer (some ⟨w.heap.size, 0, none⟩) := ki 4 (by decide)
        simp only [execOp, t4, Sem.run_bind, loadAt_part (o := 0) [.int .i64 fo.proto, .int .i64 fo.src, .int .i64 fo.sport, .int .i64 fo.dst, .int .i64 fo.dport, .int .i64 fo.kind, .int .i64 fb.proto, .int .i64 fb.src, .int .i64 fb.sport, .int .i64 fb.dst, .int .i64 fb.dport, .int .i64 fb.kind, .int .i64 s, .bool b, .bool true, .int .i64 ft, .int .i64 fc] (blk_later hGK2.out hC) rfl Try.underlying51 rfl (by kernel_rfl), Result.andThen_ok, Sem.run_pure]
        exact ⟨hC, Below.refl _ _, rfl⟩
      · refine ⟨rfl, fun v W ρ hC kc kf ks ki kd => ?_⟩
        have t3 : ρ (.tmp 3) = .int .i64 now := ki 3 (by decide)
        simp [execOp, go_sem, kc, t3]
        exact ⟨hC, Below.refl _ _, rfl⟩
      · refine ⟨rfl, fun v W ρ hC kc kf ks ki kd => ?_⟩
        have d0 : v 0 = .agg #[.int .i64 fo.proto, .int .i64 fo.src, .int .i64 fo.sport, .int .i64 fo.dst, .int .i64 fo.dport, .int .i64 fo.kind, .int .i64 fb.proto, .int .i64 fb.src, .int .i64 fb.sport, .int .i64 fb.dst, .int .i64 fb.dport, .int .i64 fb.kind, .int .i64 s, .bool b, .bool true, .int .i64 ft, .int .i64 fc] := by first | exact kd _ (mem0 rfl) rfl | exact kd _ (mem1 rfl) rfl | exact kd _ (mem2 rfl) rfl | exact kd _ (mem3 rfl) rfl | exact kd _ (mem4 rfl) rfl | exact kd _ (mem5 rfl) rfl | exact kd _ (Array.mem_of_getElem? (i := 6) rfl) rfl | exact kd _ (Array.mem_of_getElem? (i := 7) rfl) rfl
        have t25 : ρ (.tmp 25) = .agg #[.int .i64 fo.proto, .int .i64 fo.src, .int .i64 fo.sport, .int .i64 fo.dst, .int .i64 fo.dport, .int .i64 fo.kind, .int .i64 fb.proto, .int .i64 fb.src, .int .i64 fb.sport, .int .i64 fb.dst, .int .i64 fb.dport, .int .i64 fb.kind, .int .i64 s, .bool b, .bool true, .int .i64 ft, .int .i64 fc] := (ks 0 25 (by decide) rfl).trans d0
        have d1 : v 1 = .int .i64 now := by first | exact kd _ (mem0 rfl) rfl | exact kd _ (mem1 rfl) rfl | exact kd _ (mem2 rfl) rfl | exact kd _ (mem3 rfl) rfl | exact kd _ (mem4 rfl) rfl | exact kd _ (mem5 rfl) rfl | exact kd _ (Array.mem_of_getElem? (i := 6) rfl) rfl | exact kd _ (Array.mem_of_getElem? (i := 7) rfl) rfl
        have t26 : ρ (.tmp 26) = .int .i64 now := (ks 1 26 (by decide) rfl).trans d1
        simp [execOp, go_sem, kc, t25, t26, kf]
        exact Calls.mono (HC.out b true W) (fun e x h => ⟨_, h.1, hC.trans (h.2.mono hC.size), h.2, rfl⟩)
    intro vA_8 WA_8 hBA_8 hgA_8 hall
    simp [upto, Act.put]
    clear hall
    have hEA_8 := hidS (hL2.out.trans (hBA_8 w.heap.size (by omega)))
    have hcA_8 := loadVar_blk (P := Try.prog) hgA_8 Try.underlying51 rfl (by kernel_rfl)
    clear hBA_8 hgA_8 hL2 hGK2 hGR2
    go_wp2_with fail
    exact bodyPost_ret (v := .agg #[.int .i64 (counted ⟨fo, fb, s, b, true, ft, fc⟩ now).orig.proto, .int .i64 (counted ⟨fo, fb, s, b, true, ft, fc⟩ now).orig.src, .int .i64 (counted ⟨fo, fb, s, b, true, ft, fc⟩ now).orig.sport, .int .i64 (counted ⟨fo, fb, s, b, true, ft, fc⟩ now).orig.dst, .int .i64 (counted ⟨fo, fb, s, b, true, ft, fc⟩ now).orig.dport, .int .i64 (counted ⟨fo, fb, s, b, true, ft, fc⟩ now).orig.kind, .int .i64 (counted ⟨fo, fb, s, b, true, ft, fc⟩ now).back.proto, .int .i64 (counted ⟨fo, fb, s, b, true, ft, fc⟩ now).back.src, .int .i64 (counted ⟨fo, fb, s, b, true, ft, fc⟩ now).back.sport, .int .i64 (counted ⟨fo, fb, s, b, true, ft, fc⟩ now).back.dst, .int .i64 (counted ⟨fo, fb, s, b, true, ft, fc⟩ now).back.dport, .int .i64 (counted ⟨fo, fb, s, b, true, ft, fc⟩ now).back.kind, .int .i64 (counted ⟨fo, fb, s, b, true, ft, fc⟩ now).state, .bool (counted ⟨fo, fb, s, b, true, ft, fc⟩ now).seen, .bool (counted ⟨fo, fb, s, b, true, ft, fc⟩ now).sure, .int .i64 (counted ⟨fo, fb, s, b, true, ft, fc⟩ now).till, .int .i64 (counted ⟨fo, fb, s, b, true, ft, fc⟩ now).count]) (results_cell Try.results38 rfl hcA_8) rfl ⟨by rw [E.out] ; first | done | rfl, hEA_8.out⟩
  have cK0 := blk_cell hGK0.out 0
  have cK1 := blk_cell hGK0.out 1
  have cK2 := blk_cell hGK0.out 2
  have cK3 := blk_cell hGK0.out 3
  have cK4 := blk_cell hGK0.out 4
  have cK5 := blk_cell hGK0.out 5
  have cK6 := blk_cell hGK0.out 6
  have cK7 := blk_cell hGK0.out 7
  have cK8 := blk_cell hGK0.out 8
  have cK9 := blk_cell hGK0.out 9
  have cK10 := blk_cell hGK0.out 10
  have cK11 := blk_cell hGK0.out 11
  have cK12 := blk_cell hGK0.out 12
  have cK13 := blk_cell hGK0.out 13
  have cK14 := blk_cell hGK0.out 14
  have cK15 := blk_cell hGK0.out 15
  have cK16 := blk_cell hGK0.out 16
  simp at cK0 cK1 cK2 cK3 cK4 cK5 cK6 cK7 cK8 cK9 cK10 cK11 cK12 cK13 cK14 cK15 cK16
  have kK := blk_cell hGK0.out
  have fK := blk_free hGK0.out
  go_upto_region 3 with fail
  clear cK0 cK1 cK2 cK3 cK4 cK5 cK6 cK7 cK8 cK9 cK10 cK11 cK12 cK13 cK14 cK15 cK16 kK fK
  have hGK1 : Hid (((w0.setCell ⟨w.heap.size, 12, none⟩ (.int .i64 s)).setCell ⟨w.heap.size, 13, none⟩ (.bool true)).heap[w.heap.size]? = some (.cells #[.int .i64 fo.proto, .int .i64 fo.src, .int .i64 fo.sport, .int .i64 fo.dst, .int .i64 fo.dport, .int .i64 fo.kind, .int .i64 fb.proto, .int .i64 fb.src, .int .i64 fb.sport, .int .i64 fb.dst, .int .i64 fb.dport, .int .i64 fb.kind, .int .i64 s, .bool true, .bool fu, .int .i64 ft, .int .i64 fc] 51)) := by
    have := (blk_set (blk_set hGK0.out 12 (.int .i64 s)) 13 (.bool true))
    exact this
  have hGR1 := hidS (blk_other (B := w.heap.size) (blk_other (B := w.heap.size) hGR0.out (by omega) 12 (.int .i64 s)) (by omega) 13 (.bool true))
  have hL1 := hidS (below_at (k := 13) (b := w.heap.size) (v := .bool true) (below_at (k := 12) (b := w.heap.size) (v := .int .i64 s) hL0.out (by omega)) (by omega))
  clear hL0 hGK0 hGR0
  generalize ((w0.setCell ⟨w.heap.size, 12, none⟩ (.int .i64 s)).setCell ⟨w.heap.size, 13, none⟩ (.bool true)) = w1 at hGK1 hGR1 hL1 ⊢
  cases fu
  · have cK0 := blk_cell hGK1.out 0
    have cK1 := blk_cell hGK1.out 1
    have cK2 := blk_cell hGK1.out 2
    have cK3 := blk_cell hGK1.out 3
    have cK4 := blk_cell hGK1.out 4
    have cK5 := blk_cell hGK1.out 5
    have cK6 := blk_cell hGK1.out 6
    have cK7 := blk_cell hGK1.out 7
    have cK8 := blk_cell hGK1.out 8
    have cK9 := blk_cell hGK1.out 9
    have cK10 := blk_cell hGK1.out 10
    have cK11 := blk_cell hGK1.out 11
    have cK12 := blk_cell hGK1.out 12
    have cK13 := blk_cell hGK1.out 13
    have cK14 := blk_cell hGK1.out 14
    have cK15 := blk_cell hGK1.out 15
    have cK16 := blk_cell hGK1.out 16
    simp at cK0 cK1 cK2 cK3 cK4 cK5 cK6 cK7 cK8 cK9 cK10 cK11 cK12 cK13 cK14 cK15 cK16
    have kK := blk_cell hGK1.out
    have fK := blk_free hGK1.out
    go_wp2_with (first | refine wpList_load_blk 51 (.tmp 4) rfl rfl rfl hGK1.out Try.underlying51 rfl (by kernel_rfl) ?_)
    refine (HB.out true _).mono ?_
    rintro _ w2 ⟨rfl, hb2⟩
    clear cK0 cK1 cK2 cK3 cK4 cK5 cK6 cK7 cK8 cK9 cK10 cK11 cK12 cK13 cK14 cK15 cK16 kK fK
    have hGK2 := hidS (blk_later hGK1.out hb2)
    have hGR2 := hidS (blk_later hGR1.out hb2)
    have hL2 := hidS (hL1.out.trans (hb2.mono hL1.out.size))
    clear hb2 hL1 hGK1 hGR1
    have E2 : Hid (ledTo ⟨fo, fb, fs, true, false, ft, fc⟩ s b = ⟨fo, fb, s, true, byB ⟨fo, fb, s, true, false, ft, fc⟩ b, ft, fc⟩) := by show _ = _; rw [E.out]; simp
    clear E
    generalize hy : byB ⟨fo, fb, s, true, false, ft, fc⟩ b = y at *
    have kK := blk_cell hGK2.out
    have fK := blk_free hGK2.out
    go_upto_region 4 with fail
    clear kK fK
    have hGK3 : Hid ((w2.setCell ⟨w.heap.size, 14, none⟩ (.bool y)).heap[w.heap.size]? = some (.cells #[.int .i64 fo.proto, .int .i64 fo.src, .int .i64 fo.sport, .int .i64 fo.dst, .int .i64 fo.dport, .int .i64 fo.kind, .int .i64 fb.proto, .int .i64 fb.src, .int .i64 fb.sport, .int .i64 fb.dst, .int .i64 fb.dport, .int .i64 fb.kind, .int .i64 s, .bool true, .bool y, .int .i64 ft, .int .i64 fc] 51)) := by
      have := (blk_set hGK2.out 14 (.bool y))
      exact this
    have hGR3 := hidS (blk_other (B := w.heap.size) hGR2.out (by omega) 14 (.bool y))
    have hL3 := hidS (below_at (k := 14) (b := w.heap.size) (v := .bool y) hL2.out (by omega))
    clear hL2 hGK2 hGR2
    generalize (w2.setCell ⟨w.heap.size, 14, none⟩ (.bool y)) = w3 at hGK3 hGR3 hL3 ⊢
    refine plain_into 3 _ [.is (.agg #[.int .i64 fo.proto, .int .i64 fo.src, .int .i64 fo.sport, .int .i64 fo.dst, .int .i64 fo.dport, .int .i64 fo.kind, .int .i64 fb.proto, .int .i64 fb.src, .int .i64 fb.sport, .int .i64 fb.dst, .int .i64 fb.dport, .int .i64 fb.kind, .int .i64 s, .bool true, .bool y, .int .i64 ft, .int .i64 fc]), .is (.int .i64 now), .is (.agg #[.int .i64 (counted ⟨fo, fb, s, true, y, ft, fc⟩ now).orig.proto, .int .i64 (counted ⟨fo, fb, s, true, y, ft, fc⟩ now).orig.src, .int .i64 (counted ⟨fo, fb, s, true, y, ft, fc⟩ now).orig.sport, .int .i64 (counted ⟨fo, fb, s, true, y, ft, fc⟩ now).orig.dst, .int .i64 (counted ⟨fo, fb, s, true, y, ft, fc⟩ now).orig.dport, .int .i64 (counted ⟨fo, fb, s, true, y, ft, fc⟩ now).orig.kind, .int .i64 (counted ⟨fo, fb, s, true, y, ft, fc⟩ now).back.proto, .int .i64 (counted ⟨fo, fb, s, true, y, ft, fc⟩ now).back.src, .int .i64 (counted ⟨fo, fb, s, true, y, ft, fc⟩ now).back.sport, .int .i64 (counted ⟨fo, fb, s, true, y, ft, fc⟩ now).back.dst, .int .i64 (counted ⟨fo, fb, s, true, y, ft, fc⟩ now).back.dport, .int .i64 (counted ⟨fo, fb, s, true, y, ft, fc⟩ now).back.kind, .int .i64 (counted ⟨fo, fb, s, true, y, ft, fc⟩ now).state, .bool (counted ⟨fo, fb, s, true, y, ft, fc⟩ now).seen, .bool (counted ⟨fo, fb, s, true, y, ft, fc⟩ now).sure, .int .i64 (counted ⟨fo, fb, s, true, y, ft, fc⟩ now).till, .int .i64 (counted ⟨fo, fb, s, true, y, ft, fc⟩ now).count])] 2 8 27 51 51 (w.heap.size + 1) #[.int .i64 0, .int .i64 0, .int .i64 0, .int .i64 0, .int .i64 0, .int .i64 0, .int .i64 0, .int .i64 0, .int .i64 0, .int .i64 0, .int .i64 0, .int .i64 0, .int .i64 0, .bool false, .bool false, .int .i64 0, .int .i64 0] #[.int .i64 (counted ⟨fo, fb, s, true, y, ft, fc⟩ now).orig.proto, .int .i64 (counted ⟨fo, fb, s, true, y, ft, fc⟩ now).orig.src, .int .i64 (counted ⟨fo, fb, s, true, y, ft, fc⟩ now).orig.sport, .int .i64 (counted ⟨fo, fb, s, true, y, ft, fc⟩ now).orig.dst, .int .i64 (counted ⟨fo, fb, s, true, y, ft, fc⟩ now).orig.dport, .int .i64 (counted ⟨fo, fb, s, true, y, ft, fc⟩ now).orig.kind, .int .i64 (counted ⟨fo, fb, s, true, y, ft, fc⟩ now).back.proto, .int .i64 (counted ⟨fo, fb, s, true, y, ft, fc⟩ now).back.src, .int .i64 (counted ⟨fo, fb, s, true, y, ft, fc⟩ now).back.sport, .int .i64 (counted ⟨fo, fb, s, true, y, ft, fc⟩ now).back.dst, .int .i64 (counted ⟨fo, fb, s, true, y, ft, fc⟩ now).back.dport, .int .i64 (counted ⟨fo, fb, s, true, y, ft, fc⟩ now).back.kind, .int .i64 (counted ⟨fo, fb, s, true, y, ft, fc⟩ now).state, .bool (counted ⟨fo, fb, s, true, y, ft, fc⟩ now).seen, .bool (counted ⟨fo, fb, s, true, y, ft, fc⟩ now).sure, .int .i64 (counted ⟨fo, fb, s, true, y, ft, fc⟩ now).till, .int .i64 (counted ⟨fo, fb, s, true, y, ft, fc⟩ now).count] rfl rfl rfl (by kernel_rfl) (by kernel_rfl) (by kernel_rfl) rfl rfl (by decide) (by kernel_rfl) (by kernel_rfl) (by decide) hGR3.out (by kernel_rfl) (by kernel_rfl) (by first | kernel_rfl | simp [Value.oneCell']) (by kernel_rfl) ?stepsA_9 ?finA_9
    case stepsA_9 =>
      refine ⟨?_, ?_, ?_, trivial⟩
      · refine ⟨rfl, fun v W ρ hC kc kf ks ki kd => ?_⟩
        have t4 : ρ (.tmp 4) = .pointer (some ⟨w.heap.size, 0, none⟩) := ki 4 (by decide)
        simp only [execOp, t4, Sem.run_bind, loadAt_part (o := 0) [.int .i64 fo.proto, .int .i64 fo.src, .int .i64 fo.sport, .int .i64 fo.dst, .int .i64 fo.dport, .int .i64 fo.kind, .int .i64 fb.proto, .int .i64 fb.src, .int .i64 fb.sport, .int .i64 fb.dst, .int .i64 fb.dport, .int .i64 fb.kind, .int .i64 s, .bool true, .bool y, .int .i64 ft, .int .i64 fc] (blk_later hGK3.out hC) rfl Try.underlying51 rfl (by kernel_rfl), Result.andThen_ok, Sem.run_pure]
        exact ⟨hC, Below.refl _ _, rfl⟩
      · refine ⟨rfl, fun v W ρ hC kc kf ks ki kd => ?_⟩
        have t3 : ρ (.tmp 3) = .int .i64 now := ki 3 (by decide)
        simp [execOp, go_sem, kc, t3]
        exact ⟨hC, Below.refl _ _, rfl⟩
      · refine ⟨rfl, fun v W ρ hC kc kf ks ki kd => ?_⟩
        have d0 : v 0 = .agg #[.int .i64 fo.proto, .int .i64 fo.src, .int .i64 fo.sport, .int .i64 fo.dst, .int .i64 fo.dport, .int .i64 fo.kind, .int .i64 fb.proto, .int .i64 fb.src, .int .i64 fb.sport, .int .i64 fb.dst, .int .i64 fb.dport, .int .i64 fb.kind, .int .i64 s, .bool true, .bool y, .int .i64 ft, .int .i64 fc] := by first | exact kd _ (mem0 rfl) rfl | exact kd _ (mem1 rfl) rfl | exact kd _ (mem2 rfl) rfl | exact kd _ (mem3 rfl) rfl | exact kd _ (mem4 rfl) rfl | exact kd _ (mem5 rfl) rfl | exact kd _ (Array.mem_of_getElem? (i := 6) rfl) rfl | exact kd _ (Array.mem_of_getElem? (i := 7) rfl) rfl
        have t25 : ρ (.tmp 25) = .agg #[.int .i64 fo.proto, .int .i64 fo.src, .int .i64 fo.sport, .int .i64 fo.dst, .int .i64 fo.dport, .int .i64 fo.kind, .int .i64 fb.proto, .int .i64 fb.src, .int .i64 fb.sport, .int .i64 fb.dst, .int .i64 fb.dport, .int .i64 fb.kind, .int .i64 s, .bool true, .bool y, .int .i64 ft, .int .i64 fc] := (ks 0 25 (by decide) rfl).trans d0
        have d1 : v 1 = .int .i64 now := by first | exact kd _ (mem0 rfl) rfl | exact kd _ (mem1 rfl) rfl | exact kd _ (mem2 rfl) rfl | exact kd _ (mem3 rfl) rfl | exact kd _ (mem4 rfl) rfl | exact kd _ (mem5 rfl) rfl | exact kd _ (Array.mem_of_getElem? (i := 6) rfl) rfl | exact kd _ (Array.mem_of_getElem? (i := 7) rfl) rfl
        have t26 : ρ (.tmp 26) = .int .i64 now := (ks 1 26 (by decide) rfl).trans d1
        simp [execOp, go_sem, kc, t25, t26, kf]
        exact Calls.mono (HC.out true y W) (fun e x h => ⟨_, h.1, hC.trans (h.2.mono hC.size), h.2, rfl⟩)
    intro vA_9 WA_9 hBA_9 hgA_9 hall
    simp [upto, Act.put]
    clear hall
    have hEA_9 := hidS (hL3.out.trans (hBA_9 w.heap.size (by omega)))
    have hcA_9 := loadVar_blk (P := Try.prog) hgA_9 Try.underlying51 rfl (by kernel_rfl)
    clear hBA_9 hgA_9 hL3 hGK3 hGR3
    go_wp2_with fail
    exact bodyPost_ret (v := .agg #[.int .i64 (counted ⟨fo, fb, s, true, y, ft, fc⟩ now).orig.proto, .int .i64 (counted ⟨fo, fb, s, true, y, ft, fc⟩ now).orig.src, .int .i64 (counted ⟨fo, fb, s, true, y, ft, fc⟩ now).orig.sport, .int .i64 (counted ⟨fo, fb, s, true, y, ft, fc⟩ now).orig.dst, .int .i64 (counted ⟨fo, fb, s, true, y, ft, fc⟩ now).orig.dport, .int .i64 (counted ⟨fo, fb, s, true, y, ft, fc⟩ now).orig.kind, .int .i64 (counted ⟨fo, fb, s, true, y, ft, fc⟩ now).back.proto, .int .i64 (counted ⟨fo, fb, s, true, y, ft, fc⟩ now).back.src, .int .i64 (counted ⟨fo, fb, s, true, y, ft, fc⟩ now).back.sport, .int .i64 (counted ⟨fo, fb, s, true, y, ft, fc⟩ now).back.dst, .int .i64 (counted ⟨fo, fb, s, true, y, ft, fc⟩ now).back.dport, .int .i64 (counted ⟨fo, fb, s, true, y, ft, fc⟩ now).back.kind, .int .i64 (counted ⟨fo, fb, s, true, y, ft, fc⟩ now).state, .bool (counted ⟨fo, fb, s, true, y, ft, fc⟩ now).seen, .bool (counted ⟨fo, fb, s, true, y, ft, fc⟩ now).sure, .int .i64 (counted ⟨fo, fb, s, true, y, ft, fc⟩ now).till, .int .i64 (counted ⟨fo, fb, s, true, y, ft, fc⟩ now).count]) (results_cell Try.results38 rfl hcA_9) rfl ⟨by rw [E2.out], hEA_9.out⟩
  have cK0 := blk_cell hGK1.out 0
  have cK1 := blk_cell hGK1.out 1
  have cK2 := blk_cell hGK1.out 2
  have cK3 := blk_cell hGK1.out 3
  have cK4 := blk_cell hGK1.out 4
  have cK5 := blk_cell hGK1.out 5
  have cK6 := blk_cell hGK1.out 6
  have cK7 := blk_cell hGK1.out 7
  have cK8 := blk_cell hGK1.out 8
  have cK9 := blk_cell hGK1.out 9
  have cK10 := blk_cell hGK1.out 10
  have cK11 := blk_cell hGK1.out 11
  have cK12 := blk_cell hGK1.out 12
  have cK13 := blk_cell hGK1.out 13
  have cK14 := blk_cell hGK1.out 14
  have cK15 := blk_cell hGK1.out 15
  have cK16 := blk_cell hGK1.out 16
  simp at cK0 cK1 cK2 cK3 cK4 cK5 cK6 cK7 cK8 cK9 cK10 cK11 cK12 cK13 cK14 cK15 cK16
  have kK := blk_cell hGK1.out
  have fK := blk_free hGK1.out
  go_upto_region 4 with fail
  clear cK0 cK1 cK2 cK3 cK4 cK5 cK6 cK7 cK8 cK9 cK10 cK11 cK12 cK13 cK14 cK15 cK16 kK fK
  have hGK2 : Hid ((w1.setCell ⟨w.heap.size, 14, none⟩ (.bool true)).heap[w.heap.size]? = some (.cells #[.int .i64 fo.proto, .int .i64 fo.src, .int .i64 fo.sport, .int .i64 fo.dst, .int .i64 fo.dport, .int .i64 fo.kind, .int .i64 fb.proto, .int .i64 fb.src, .int .i64 fb.sport, .int .i64 fb.dst, .int .i64 fb.dport, .int .i64 fb.kind, .int .i64 s, .bool true, .bool true, .int .i64 ft, .int .i64 fc] 51)) := by
    have := (blk_set hGK1.out 14 (.bool true))
    exact this
  have hGR2 := hidS (blk_other (B := w.heap.size) hGR1.out (by omega) 14 (.bool true))
  have hL2 := hidS (below_at (k := 14) (b := w.heap.size) (v := .bool true) hL1.out (by omega))
  clear hL1 hGK1 hGR1
  generalize (w1.setCell ⟨w.heap.size, 14, none⟩ (.bool true)) = w2 at hGK2 hGR2 hL2 ⊢
  refine plain_into 3 _ [.is (.agg #[.int .i64 fo.proto, .int .i64 fo.src, .int .i64 fo.sport, .int .i64 fo.dst, .int .i64 fo.dport, .int .i64 fo.kind, .int .i64 fb.proto, .int .i64 fb.src, .int .i64 fb.sport, .int .i64 fb.dst, .int .i64 fb.dport, .int .i64 fb.kind, .int .i64 s, .bool true, .bool true, .int .i64 ft, .int .i64 fc]), .is (.int .i64 now), .is (.agg #[.int .i64 (counted ⟨fo, fb, s, true, true, ft, fc⟩ now).orig.proto, .int .i64 (counted ⟨fo, fb, s, true, true, ft, fc⟩ now).orig.src, .int .i64 (counted ⟨fo, fb, s, true, true, ft, fc⟩ now).orig.sport, .int .i64 (counted ⟨fo, fb, s, true, true, ft, fc⟩ now).orig.dst, .int .i64 (counted ⟨fo, fb, s, true, true, ft, fc⟩ now).orig.dport, .int .i64 (counted ⟨fo, fb, s, true, true, ft, fc⟩ now).orig.kind, .int .i64 (counted ⟨fo, fb, s, true, true, ft, fc⟩ now).back.proto, .int .i64 (counted ⟨fo, fb, s, true, true, ft, fc⟩ now).back.src, .int .i64 (counted ⟨fo, fb, s, true, true, ft, fc⟩ now).back.sport, .int .i64 (counted ⟨fo, fb, s, true, true, ft, fc⟩ now).back.dst, .int .i64 (counted ⟨fo, fb, s, true, true, ft, fc⟩ now).back.dport, .int .i64 (counted ⟨fo, fb, s, true, true, ft, fc⟩ now).back.kind, .int .i64 (counted ⟨fo, fb, s, true, true, ft, fc⟩ now).state, .bool (counted ⟨fo, fb, s, true, true, ft, fc⟩ now).seen, .bool (counted ⟨fo, fb, s, true, true, ft, fc⟩ now).sure, .int .i64 (counted ⟨fo, fb, s, true, true, ft, fc⟩ now).till, .int .i64 (counted ⟨fo, fb, s, true, true, ft, fc⟩ now).count])] 2 8 27 51 51 (w.heap.size + 1) #[.int .i64 0, .int .i64 0, .int .i64 0, .int .i64 0, .int .i64 0, .int .i64 0, .int .i64 0, .int .i64 0, .int .i64 0, .int .i64 0, .int .i64 0, .int .i64 0, .int .i64 0, .bool false, .bool false, .int .i64 0, .int .i64 0] #[.int .i64 (counted ⟨fo, fb, s, true, true, ft, fc⟩ now).orig.proto, .int .i64 (counted ⟨fo, fb, s, true, true, ft, fc⟩ now).orig.src, .int .i64 (counted ⟨fo, fb, s, true, true, ft, fc⟩ now).orig.sport, .int .i64 (counted ⟨fo, fb, s, true, true, ft, fc⟩ now).orig.dst, .int .i64 (counted ⟨fo, fb, s, true, true, ft, fc⟩ now).orig.dport, .int .i64 (counted ⟨fo, fb, s, true, true, ft, fc⟩ now).orig.kind, .int .i64 (counted ⟨fo, fb, s, true, true, ft, fc⟩ now).back.proto, .int .i64 (counted ⟨fo, fb, s, true, true, ft, fc⟩ now).back.src, .int .i64 (counted ⟨fo, fb, s, true, true, ft, fc⟩ now).back.sport, .int .i64 (counted ⟨fo, fb, s, true, true, ft, fc⟩ now).back.dst, .int .i64 (counted ⟨fo, fb, s, true, true, ft, fc⟩ now).back.dport, .int .i64 (counted ⟨fo, fb, s, true, true, ft, fc⟩ now).back.kind, .int .i64 (counted ⟨fo, fb, s, true, true, ft, fc⟩ now).state, .bool (counted ⟨fo, fb, s, true, true, ft, fc⟩ now).seen, .bool (counted ⟨fo, fb, s, true, true, ft, fc⟩ now).sure, .int .i64 (counted ⟨fo, fb, s, true, true, ft, fc⟩ now).till, .int .i64 (counted ⟨fo, fb, s, true, true, ft, fc⟩ now).count] rfl rfl rfl (by kernel_rfl) (by kernel_rfl) (by kernel_rfl) rfl rfl (by decide) (by kernel_rfl) (by kernel_rfl) (by decide) hGR2.out (by kernel_rfl) (by kernel_rfl) (by first | kernel_rfl | simp [Value.oneCell']) (by kernel_rfl) ?stepsA_10 ?finA_10
  case stepsA_10 =>
    refine ⟨?_, ?_, ?_, trivial⟩
    · refine ⟨rfl, fun v W ρ hC kc kf ks ki kd => ?_⟩
      have t4 : ρ (.tmp 4) = .pointer (some ⟨w.heap.size, 0, none⟩) := ki 4 (by decide)
      simp only [execOp, t4, Sem.run_bind, loadAt_part (o := 0) [.int .i64 fo.proto, .int .i64 fo.src, .int .i64 fo.sport, .int .i64 fo.dst, .int .i64 fo.dport, .int .i64 fo.kind, .int .i64 fb.proto, .int .i64 fb.src, .int .i64 fb.sport, .int .i64 fb.dst, .int .i64 fb.dport, .int .i64 fb.kind, .int .i64 s, .bool true, .bool true, .int .i64 ft, .int .i64 fc] (blk_later hGK2.out hC) rfl Try.underlying51 rfl (by kernel_rfl), Result.andThen_ok, Sem.run_pure]
      exact ⟨hC, Below.refl _ _, rfl⟩
    · refine ⟨rfl, fun v W ρ hC kc kf ks ki kd => ?_⟩
      have t3 : ρ (.tmp 3) = .int .i64 now := ki 3 (by decide)
      simp [execOp, go_sem, kc, t3]
      exact ⟨hC, Below.refl _ _, rfl⟩
    · refine ⟨rfl, fun v W ρ hC kc kf ks ki kd => ?_⟩
      have d0 : v 0 = .agg #[.int .i64 fo.proto, .int .i64 fo.src, .int .i64 fo.sport, .int .i64 fo.dst, .int .i64 fo.dport, .int .i64 fo.kind, .int .i64 fb.proto, .int .i64 fb.src, .int .i64 fb.sport, .int .i64 fb.dst, .int .i64 fb.dport, .int .i64 fb.kind, .int .i64 s, .bool true, .bool true, .int .i64 ft, .int .i64 fc] := by first | exact kd _ (mem0 rfl) rfl | exact kd _ (mem1 rfl) rfl | exact kd _ (mem2 rfl) rfl | exact kd _ (mem3 rfl) rfl | exact kd _ (mem4 rfl) rfl | exact kd _ (mem5 rfl) rfl | exact kd _ (Array.mem_of_getElem? (i := 6) rfl) rfl | exact kd _ (Array.mem_of_getElem? (i := 7) rfl) rfl
      have t25 : ρ (.tmp 25) = .agg #[.int .i64 fo.proto, .int .i64 fo.src, .int .i64 fo.sport, .int .i64 fo.dst, .int .i64 fo.dport, .int .i64 fo.kind, .int .i64 fb.proto, .int .i64 fb.src, .int .i64 fb.sport, .int .i64 fb.dst, .int .i64 fb.dport, .int .i64 fb.kind, .int .i64 s, .bool true, .bool true, .int .i64 ft, .int .i64 fc] := (ks 0 25 (by decide) rfl).trans d0
      have d1 : v 1 = .int .i64 now := by first | exact kd _ (mem0 rfl) rfl | exact kd _ (mem1 rfl) rfl | exact kd _ (mem2 rfl) rfl | exact kd _ (mem3 rfl) rfl | exact kd _ (mem4 rfl) rfl | exact kd _ (mem5 rfl) rfl | exact kd _ (Array.mem_of_getElem? (i := 6) rfl) rfl | exact kd _ (Array.mem_of_getElem? (i := 7) rfl) rfl
      have t26 : ρ (.tmp 26) = .int .i64 now := (ks 1 26 (by decide) rfl).trans d1
      simp [execOp, go_sem, kc, t25, t26, kf]
      exact Calls.mono (HC.out true true W) (fun e x h => ⟨_, h.1, hC.trans (h.2.mono hC.size), h.2, rfl⟩)
  intro vA_10 WA_10 hBA_10 hgA_10 hall
  simp [upto, Act.put]
  clear hall
  have hEA_10 := hidS (hL2.out.trans (hBA_10 w.heap.size (by omega)))
  have hcA_10 := loadVar_blk (P := Try.prog) hgA_10 Try.underlying51 rfl (by kernel_rfl)
  clear hBA_10 hgA_10 hL2 hGK2 hGR2
  go_wp2_with fail
  exact bodyPost_ret (v := .agg #[.int .i64 (counted ⟨fo, fb, s, true, true, ft, fc⟩ now).orig.proto, .int .i64 (counted ⟨fo, fb, s, true, true, ft, fc⟩ now).orig.src, .int .i64 (counted ⟨fo, fb, s, true, true, ft, fc⟩ now).orig.sport, .int .i64 (counted ⟨fo, fb, s, true, true, ft, fc⟩ now).orig.dst, .int .i64 (counted ⟨fo, fb, s, true, true, ft, fc⟩ now).orig.dport, .int .i64 (counted ⟨fo, fb, s, true, true, ft, fc⟩ now).orig.kind, .int .i64 (counted ⟨fo, fb, s, true, true, ft, fc⟩ now).back.proto, .int .i64 (counted ⟨fo, fb, s, true, true, ft, fc⟩ now).back.src, .int .i64 (counted ⟨fo, fb, s, true, true, ft, fc⟩ now).back.sport, .int .i64 (counted ⟨fo, fb, s, true, true, ft, fc⟩ now).back.dst, .int .i64 (counted ⟨fo, fb, s, true, true, ft, fc⟩ now).back.dport, .int .i64 (counted ⟨fo, fb, s, true, true, ft, fc⟩ now).back.kind, .int .i64 (counted ⟨fo, fb, s, true, true, ft, fc⟩ now).state, .bool (counted ⟨fo, fb, s, true, true, ft, fc⟩ now).seen, .bool (counted ⟨fo, fb, s, true, true, ft, fc⟩ now).sure, .int .i64 (counted ⟨fo, fb, s, true, true, ft, fc⟩ now).till, .int .i64 (counted ⟨fo, fb, s, true, true, ft, fc⟩ now).count]) (results_cell Try.results38 rfl hcA_10) rfl ⟨by rw [E.out] ; first | done | rfl, hEA_10.out⟩
set_option maxHeartbeats 4000000 in
theorem mayGoAs_any (a g : Tp) (w : World) : Calls Try.prog 26 #[.agg #[.int .i64 a.proto, .int .i64 a.src, .int .i64 a.sport, .int .i64 a.dst, .int .i64 a.dport, .int .i64 a.kind], .agg #[.int .i64 g.proto, .int .i64 g.src, .int .i64 g.sport, .int .i64 g.dst, .int .i64 g.dport, .int .i64 g.kind]] w fun e w' => e = .returned (.bool (mayB a g)) ∧ Below w.heap.size w w' := by
  have E : Hid (mayB a g = (rightT a && rightT g && a.proto == g.proto && a.kind == g.kind)) := rfl
  have HA := hidS (fun W => implTRight_any a W)
  have HG := hidS (fun W => implTRight_any g W)
  have hGA0 : Hid (((w.alloc (.cells #[.int .i64 a.proto, .int .i64 a.src, .int .i64 a.sport, .int .i64 a.dst, .int .i64 a.dport, .int .i64 a.kind] 27)).alloc (.cells #[.int .i64 g.proto, .int .i64 g.src, .int .i64 g.sport, .int .i64 g.dst, .int .i64 g.dport, .int .i64 g.kind] 27)).heap[w.heap.size]? = some (.cells #[.int .i64 a.proto, .int .i64 a.src, .int .i64 a.sport, .int .i64 a.dst, .int .i64 a.dport, .int .i64 a.kind] 27)) := by
    show _ = _
    have := blk_alloc (heap_newG w (.cells #[.int .i64 a.proto, .int .i64 a.src, .int .i64 a.sport, .int .i64 a.dst, .int .i64 a.dport, .int .i64 a.kind] 27)) (.cells #[.int .i64 g.proto, .int .i64 g.src, .int .i64 g.sport, .int .i64 g.dst, .int .i64 g.dport, .int .i64 g.kind] 27)
    simpa using this
  have hGG0 : Hid (((w.alloc (.cells #[.int .i64 a.proto, .int .i64 a.src, .int .i64 a.sport, .int .i64 a.dst, .int .i64 a.dport, .int .i64 a.kind] 27)).alloc (.cells #[.int .i64 g.proto, .int .i64 g.src, .int .i64 g.sport, .int .i64 g.dst, .int .i64 g.dport, .int .i64 g.kind] 27)).heap[w.heap.size + 1]? = some (.cells #[.int .i64 g.proto, .int .i64 g.src, .int .i64 g.sport, .int .i64 g.dst, .int .i64 g.dport, .int .i64 g.kind] 27)) := by
    show _ = _
    have := heap_newG (w.alloc (.cells #[.int .i64 a.proto, .int .i64 a.src, .int .i64 a.sport, .int .i64 a.dst, .int .i64 a.dport, .int .i64 a.kind] 27)) (.cells #[.int .i64 g.proto, .int .i64 g.src, .int .i64 g.sport, .int .i64 g.dst, .int .i64 g.dport, .int .i64 g.kind] 27)
    simpa using this
  have hL0 := hidS (((Below.refl w.heap.size w).alloc (Nat.le_refl _) (.cells #[.int .i64 a.proto, .int .i64 a.src, .int .i64 a.sport, .int .i64 a.dst, .int .i64 a.dport, .int .i64 a.kind] 27)).alloc (by simp) (.cells #[.int .i64 g.proto, .int .i64 g.src, .int .i64 g.sport, .int .i64 g.dst, .int .i64 g.dport, .int .i64 g.kind] 27))
  go_enter Try.func26, Try.ntmps26
  go_upto_region 1 with fail
  generalize ((w.alloc (.cells #[.int .i64 a.proto, .int .i64 a.src, .int .i64 a.sport, .int .i64 a.dst, .int .i64 a.dport, .int .i64 a.kind] 27)).alloc (.cells #[.int .i64 g.proto, .int .i64 g.src, .int .i64 g.sport, .int .i64 g.dst, .int .i64 g.dport, .int .i64 g.kind] 27)) = w0 at hGA0 hGG0 hL0 ⊢
  have cA0 := blk_cell hGA0.out 0
  have cA1 := blk_cell hGA0.out 1
  have cA2 := blk_cell hGA0.out 2
  have cA3 := blk_cell hGA0.out 3
  have cA4 := blk_cell hGA0.out 4
  have cA5 := blk_cell hGA0.out 5
  simp at cA0 cA1 cA2 cA3 cA4 cA5
  go_wp2_with fail
  refine (HA.out _).mono ?_
  rintro _ w1 ⟨rfl, hb1⟩
  clear cA0 cA1 cA2 cA3 cA4 cA5
  have hGA1 := hidS (blk_later hGA0.out hb1)
  have hGG1 := hidS (blk_later hGG0.out hb1)
  have hL1 := hidS (hL0.out.trans (hb1.mono hL0.out.size))
  clear hb1 hL0 hGA0 hGG0
  cases h0 : rightT a
  · go_wp2_with fail
    go_ret
    exact ⟨by rw [E.out, h0]; rfl, hL1.out⟩
  have cG0 := blk_cell hGG1.out 0
  have cG1 := blk_cell hGG1.out 1
  have cG2 := blk_cell hGG1.out 2
  have cG3 := blk_cell hGG1.out 3
  have cG4 := blk_cell hGG1.out 4
  have cG5 := blk_cell hGG1.out 5
  simp at cG0 cG1 cG2 cG3 cG4 cG5
  go_wp2_with fail
  refine (HG.out _).mono ?_
  rintro _ w2 ⟨rfl, hb2⟩
  clear cG0 cG1 cG2 cG3 cG4 cG5
  have hGA2 := hidS (blk_later hGA1.out hb2)
  have hGG2 := hidS (blk_later hGG1.out hb2)
  have hL2 := hidS (hL1.out.trans (hb2.mono hL1.out.size))
  clear hb2 hL1 hGA1 hGG1
  cases h1 : rightT g
  · go_wp2_with fail
    go_ret
    exact ⟨by rw [E.out, h0, h1]; rfl, hL2.out⟩
  have cA0 := blk_cell hGA2.out 0
  have cA1 := blk_cell hGA2.out 1
  have cA2 := blk_cell hGA2.out 2
  have cA3 := blk_cell hGA2.out 3
  have cA4 := blk_cell hGA2.out 4
  have cA5 := blk_cell hGA2.out 5
  simp at cA0 cA1 cA2 cA3 cA4 cA5
  have cG0 := blk_cell hGG2.out 0
  have cG1 := blk_cell hGG2.out 1
  have cG2 := blk_cell hGG2.out 2
  have cG3 := blk_cell hGG2.out 3
  have cG4 := blk_cell hGG2.out 4
  have cG5 := blk_cell hGG2.out 5
  simp at cG0 cG1 cG2 cG3 cG4 cG5
  cases h2 : (a.proto == g.proto)
  · go_wp2_with fail
    go_ret
    exact ⟨by rw [E.out, h0, h1, h2]; rfl, hL2.out⟩
  go_wp2_with fail
  go_ret
  exact ⟨by rw [E.out, h0, h1, h2]; rfl, hL2.out⟩
end Go.Proofs.Ytbhemimhmkgfiaa
