/- Proved here: spec.FlowOut2 answers as the plain function; all old memory stays (no conditions but those that stand there). -/
import Derived.Test.YtbhemimhmkgfiaaDoorFlowS1
import Derived.Test.YtbhemimhmkgfiaaDoorAll21
import Derived.Test.YtbhemimhmkgfiaaDoorAll22
import Derived.Test.YtbhemimhmkgfiaaDoorFlowFacts
import Derived.Test.YtbhemimhmkgfiaaDoorGrow
namespace Go.Proofs.YtbhemimhmkgfiaaDoor
open Go.ChangeShapes Go.WideShapes Go.ChangeAt Go.RowKit
set_option linter.unusedVariables false
set_option linter.unusedSimpArgs false
set_option maxRecDepth 100000

set_option maxHeartbeats 8000000 in
theorem specFO_any (f : Fl) (p : Pk) (b : Bool) (w : World) (hs : p.body.size ≤ maxLen) :
    Calls Tryd.prog 6 #[.agg #[.int .i64 f.orig.proto, .int .i64 f.orig.src, .int .i64 f.orig.sport, .int .i64 f.orig.dst, .int .i64 f.orig.dport, .int .i64 f.orig.kind, .int .i64 f.back.proto, .int .i64 f.back.src, .int .i64 f.back.sport, .int .i64 f.back.dst, .int .i64 f.back.dport, .int .i64 f.back.kind, .int .i64 f.state, .bool f.seen, .bool f.sure, .int .i64 f.till, .int .i64 f.count], .agg #[.int .i64 p.src, .int .i64 p.dst, .int .i64 p.proto, .int .i64 p.a, .int .i64 p.b, .int .i64 p.kind, .int .i64 p.flags, .int .i64 p.seq, .int .i64 p.ack, .string p.body], .bool b] w fun e w' => e = .returned (.agg #[.int .i64 (outP f p b).src, .int .i64 (outP f p b).dst, .int .i64 (outP f p b).proto, .int .i64 (outP f p b).a, .int .i64 (outP f p b).b, .int .i64 (outP f p b).kind, .int .i64 (outP f p b).flags, .int .i64 (outP f p b).seq, .int .i64 (outP f p b).ack, .string (outP f p b).body, .int .i64 (outC f p b)]) ∧ Below w.heap.size w w' := by
  have EB : Hid (isOfF f p b = (rightF f && packB p && sameT (ofP p) (sideF f b))) := rfl
  have HR := hidS (fun W => specFR_any f W)
  have HP := hidS (fun W => l09Packet_any p W hs)
  have HF := hidS (fun W => l04Of_any p W)
  have HD := hidS (fun W => l09Side_any f b W)
  have HD2 := hidS (fun W => l09Side_any f (!b) W)
  have HQ := hidS (fun W => neq_tup (ofP p) (sideF f b) W)
  have HI := hidS (fun h W => l04Invert_any (sideF f (!b)) W h)
  have HW := hidS (fun W => l04With_any p (invT (sideF f (!b))) W)
  have HS := hidS (fun h => side_right (f := f) (!b) h)
  clear hs
  have hGF0 : Hid ((((w.alloc (.cells #[.int .i64 f.orig.proto, .int .i64 f.orig.src, .int .i64 f.orig.sport, .int .i64 f.orig.dst, .int .i64 f.orig.dport, .int .i64 f.orig.kind, .int .i64 f.back.proto, .int .i64 f.back.src, .int .i64 f.back.sport, .int .i64 f.back.dst, .int .i64 f.back.dport, .int .i64 f.back.kind, .int .i64 f.state, .bool f.seen, .bool f.sure, .int .i64 f.till, .int .i64 f.count] 35)).alloc (.cells #[.int .i64 p.src, .int .i64 p.dst, .int .i64 p.proto, .int .i64 p.a, .int .i64 p.b, .int .i64 p.kind, .int .i64 p.flags, .int .i64 p.seq, .int .i64 p.ack, .string p.body] 29)).alloc (.cells #[.int .i64 0, .int .i64 0, .int .i64 0, .int .i64 0, .int .i64 0, .int .i64 0, .int .i64 0, .int .i64 0, .int .i64 0, .string ⟨#[]⟩, .int .i64 0] 31)).heap[w.heap.size]? = some (.cells #[.int .i64 f.orig.proto, .int .i64 f.orig.src, .int .i64 f.orig.sport, .int .i64 f.orig.dst, .int .i64 f.orig.dport, .int .i64 f.orig.kind, .int .i64 f.back.proto, .int .i64 f.back.src, .int .i64 f.back.sport, .int .i64 f.back.dst, .int .i64 f.back.dport, .int .i64 f.back.kind, .int .i64 f.state, .bool f.seen, .bool f.sure, .int .i64 f.till, .int .i64 f.count] 35)) := by
    show _ = _
    have := blk_alloc (blk_alloc (heap_newG w (.cells #[.int .i64 f.orig.proto, .int .i64 f.orig.src, .int .i64 f.orig.sport, .int .i64 f.orig.dst, .int .i64 f.orig.dport, .int .i64 f.orig.kind, .int .i64 f.back.proto, .int .i64 f.back.src, .int .i64 f.back.sport, .int .i64 f.back.dst, .int .i64 f.back.dport, .int .i64 f.back.kind, .int .i64 f.state, .bool f.seen, .bool f.sure, .int .i64 f.till, .int .i64 f.count] 35)) (.cells #[.int .i64 p.src, .int .i64 p.dst, .int .i64 p.proto, .int .i64 p.a, .int .i64 p.b, .int .i64 p.kind, .int .i64 p.flags, .int .i64 p.seq, .int .i64 p.ack, .string p.body] 29)) (.cells #[.int .i64 0, .int .i64 0, .int .i64 0, .int .i64 0, .int .i64 0, .int .i64 0, .int .i64 0, .int .i64 0, .int .i64 0, .string ⟨#[]⟩, .int .i64 0] 31)
    simpa using this
  have hGP0 : Hid ((((w.alloc (.cells #[.int .i64 f.orig.proto, .int .i64 f.orig.src, .int .i64 f.orig.sport, .int .i64 f.orig.dst, .int .i64 f.orig.dport, .int .i64 f.orig.kind, .int .i64 f.back.proto, .int .i64 f.back.src, .int .i64 f.back.sport, .int .i64 f.back.dst, .int .i64 f.back.dport, .int .i64 f.back.kind, .int .i64 f.state, .bool f.seen, .bool f.sure, .int .i64 f.till, .int .i64 f.count] 35)).alloc (.cells #[.int .i64 p.src, .int .i64 p.dst, .int .i64 p.proto, .int .i64 p.a, .int .i64 p.b, .int .i64 p.kind, .int .i64 p.flags, .int .i64 p.seq, .int .i64 p.ack, .string p.body] 29)).alloc (.cells #[.int .i64 0, .int .i64 0, .int .i64 0, .int .i64 0, .int .i64 0, .int .i64 0, .int .i64 0, .int .i64 0, .int .i64 0, .string ⟨#[]⟩, .int .i64 0] 31)).heap[w.heap.size + 1]? = some (.cells #[.int .i64 p.src, .int .i64 p.dst, .int .i64 p.proto, .int .i64 p.a, .int .i64 p.b, .int .i64 p.kind, .int .i64 p.flags, .int .i64 p.seq, .int .i64 p.ack, .string p.body] 29)) := by
    show _ = _
    have := blk_alloc (heap_newG (w.alloc (.cells #[.int .i64 f.orig.proto, .int .i64 f.orig.src, .int .i64 f.orig.sport, .int .i64 f.orig.dst, .int .i64 f.orig.dport, .int .i64 f.orig.kind, .int .i64 f.back.proto, .int .i64 f.back.src, .int .i64 f.back.sport, .int .i64 f.back.dst, .int .i64 f.back.dport, .int .i64 f.back.kind, .int .i64 f.state, .bool f.seen, .bool f.sure, .int .i64 f.till, .int .i64 f.count] 35)) (.cells #[.int .i64 p.src, .int .i64 p.dst, .int .i64 p.proto, .int .i64 p.a, .int .i64 p.b, .int .i64 p.kind, .int .i64 p.flags, .int .i64 p.seq, .int .i64 p.ack, .string p.body] 29)) (.cells #[.int .i64 0, .int .i64 0, .int .i64 0, .int .i64 0, .int .i64 0, .int .i64 0, .int .i64 0, .int .i64 0, .int .i64 0, .string ⟨#[]⟩, .int .i64 0] 31)
    simpa using this
  have hGR0 : Hid ((((w.alloc (.cells #[.int .i64 f.orig.proto, .int .i64 f.orig.src, .int .i64 f.orig.sport, .int .i64 f.orig.dst, .int .i64 f.orig.dport, .int .i64 f.orig.kind, .int .i64 f.back.proto, .int .i64 f.back.src, .int .i64 f.back.sport, .int .i64 f.back.dst, .int .i64 f.back.dport, .int .i64 f.back.kind, .int .i64 f.state, .bool f.seen, .bool f.sure, .int .i64 f.till, .int .i64 f.count] 35)).alloc (.cells #[.int .i64 p.src, .int .i64 p.dst, .int .i64 p.proto, .int .i64 p.a, .int .i64 p.b, .int .i64 p.kind, .int .i64 p.flags, .int .i64 p.seq, .int .i64 p.ack, .string p.body] 29)).alloc (.cells #[.int .i64 0, .int .i64 0, .int .i64 0, .int .i64 0, .int .i64 0, .int .i64 0, .int .i64 0, .int .i64 0, .int .i64 0, .string ⟨#[]⟩, .int .i64 0] 31)).heap[w.heap.size + 2]? = some (.cells #[.int .i64 0, .int .i64 0, .int .i64 0, .int .i64 0, .int .i64 0, .int .i64 0, .int .i64 0, .int .i64 0, .int .i64 0, .string ⟨#[]⟩, .int .i64 0] 31)) := by
    show _ = _
    have := heap_newG ((w.alloc (.cells #[.int .i64 f.orig.proto, .int .i64 f.orig.src, .int .i64 f.orig.sport, .int .i64 f.orig.dst, .int .i64 f.orig.dport, .int .i64 f.orig.kind, .int .i64 f.back.proto, .int .i64 f.back.src, .int .i64 f.back.sport, .int .i64 f.back.dst, .int .i64 f.back.dport, .int .i64 f.back.kind, .int .i64 f.state, .bool f.seen, .bool f.sure, .int .i64 f.till, .int .i64 f.count] 35)).alloc (.cells #[.int .i64 p.src, .int .i64 p.dst, .int .i64 p.proto, .int .i64 p.a, .int .i64 p.b, .int .i64 p.kind, .int .i64 p.flags, .int .i64 p.seq, .int .i64 p.ack, .string p.body] 29)) (.cells #[.int .i64 0, .int .i64 0, .int .i64 0, .int .i64 0, .int .i64 0, .int .i64 0, .int .i64 0, .int .i64 0, .int .i64 0, .string ⟨#[]⟩, .int .i64 0] 31)
    simpa using this
  have hL0 := hidS ((((Below.refl w.heap.size w).alloc (Nat.le_refl _) (.cells #[.int .i64 f.orig.proto, .int .i64 f.orig.src, .int .i64 f.orig.sport, .int .i64 f.orig.dst, .int .i64 f.orig.dport, .int .i64 f.orig.kind, .int .i64 f.back.proto, .int .i64 f.back.src, .int .i64 f.back.sport, .int .i64 f.back.dst, .int .i64 f.back.dport, .int .i64 f.back.kind, .int .i64 f.state, .bool f.seen, .bool f.sure, .int .i64 f.till, .int .i64 f.count] 35)).alloc (by simp) (.cells #[.int .i64 p.src, .int .i64 p.dst, .int .i64 p.proto, .int .i64 p.a, .int .i64 p.b, .int .i64 p.kind, .int .i64 p.flags, .int .i64 p.seq, .int .i64 p.ack, .string p.body] 29)).alloc (by simp; omega) (.cells #[.int .i64 0, .int .i64 0, .int .i64 0, .int .i64 0, .int .i64 0, .int .i64 0, .int .i64 0, .int .i64 0, .int .i64 0, .string ⟨#[]⟩, .int .i64 0] 31))
  go_enter Tryd.func6, Tryd.ntmps6
  go_upto_region 1 with fail
  generalize (((w.alloc (.cells #[.int .i64 f.orig.proto, .int .i64 f.orig.src, .int .i64 f.orig.sport, .int .i64 f.orig.dst, .int .i64 f.orig.dport, .int .i64 f.orig.kind, .int .i64 f.back.proto, .int .i64 f.back.src, .int .i64 f.back.sport, .int .i64 f.back.dst, .int .i64 f.back.dport, .int .i64 f.back.kind, .int .i64 f.state, .bool f.seen, .bool f.sure, .int .i64 f.till, .int .i64 f.count] 35)).alloc (.cells #[.int .i64 p.src, .int .i64 p.dst, .int .i64 p.proto, .int .i64 p.a, .int .i64 p.b, .int .i64 p.kind, .int .i64 p.flags, .int .i64 p.seq, .int .i64 p.ack, .string p.body] 29)).alloc (.cells #[.int .i64 0, .int .i64 0, .int .i64 0, .int .i64 0, .int .i64 0, .int .i64 0, .int .i64 0, .int .i64 0, .int .i64 0, .string ⟨#[]⟩, .int .i64 0] 31)) = w0 at hGF0 hGP0 hGR0 hL0 ⊢
  cases h0 : (rightF f)
  · rw [h0] at HR
    refine grow_guarded 16 [.is (.agg #[.int .i64 f.orig.proto, .int .i64 f.orig.src, .int .i64 f.orig.sport, .int .i64 f.orig.dst, .int .i64 f.orig.dport, .int .i64 f.orig.kind, .int .i64 f.back.proto, .int .i64 f.back.src, .int .i64 f.back.sport, .int .i64 f.back.dst, .int .i64 f.back.dport, .int .i64 f.back.kind, .int .i64 f.state, .bool f.seen, .bool f.sure, .int .i64 f.till, .int .i64 f.count]), .is (.bool false), .is (.bool true), .is (.bool true), .is (undef), .is (undef), .is (undef), .is (.bool true), .is (.bool true), .is (undef), .is (undef), .is (undef), .is (undef), .is (undef), .is (undef), .is (.bool true)] rfl (by kernel_rfl) (by kernel_rfl) ?stepsA_1 ?finA_1
    case stepsA_1 =>
      refine ⟨?_, ?_, ?_, ?_, ?_, ?_, ?_, ?_, ?_, ?_, ?_, ?_, ?_, ?_, ?_, ?_, trivial⟩
      · refine stepW_of_u ⟨rfl, fun v W ρ hC kc kf ks ki kd => ?_⟩
        have t3 : ρ (.tmp 3) = .pointer (some ⟨w.heap.size, 0, none⟩) := ki 3 (by decide)
        simp only [execOp, t3, Sem.run_bind, loadAt_part (o := 0) [.int .i64 f.orig.proto, .int .i64 f.orig.src, .int .i64 f.orig.sport, .int .i64 f.orig.dst, .int .i64 f.orig.dport, .int .i64 f.orig.kind, .int .i64 f.back.proto, .int .i64 f.back.src, .int .i64 f.back.sport, .int .i64 f.back.dst, .int .i64 f.back.dport, .int .i64 f.back.kind, .int .i64 f.state, .bool f.seen, .bool f.sure, .int .i64 f.till, .int .i64 f.count] (blk_later hGF0.out hC) rfl Tryd.underlying35 rfl (by kernel_rfl), Result.andThen_ok, Sem.run_pure]
        exact ⟨hC, Below.refl _ _, rfl⟩
      · refine stepW_of_u ⟨rfl, fun v W ρ hC kc kf ks ki kd => ?_⟩
        have d0 : v 0 = .agg #[.int .i64 f.orig.proto, .int .i64 f.orig.src, .int .i64 f.orig.sport, .int .i64 f.orig.dst, .int .i64 f.orig.dport, .int .i64 f.orig.kind, .int .i64 f.back.proto, .int .i64 f.back.src, .int .i64 f.back.sport, .int .i64 f.back.dst, .int .i64 f.back.dport, .int .i64 f.back.kind, .int .i64 f.state, .bool f.seen, .bool f.sure, .int .i64 f.till, .int .i64 f.count] := by first | exact kd _ (mem0 rfl) rfl | exact kd _ (mem1 rfl) rfl | exact kd _ (mem2 rfl) rfl | exact kd _ (mem3 rfl) rfl | exact kd _ (mem4 rfl) rfl | exact kd _ (mem5 rfl) rfl | exact kd _ (Array.mem_of_getElem? (i := 6) rfl) rfl | exact kd _ (Array.mem_of_getElem? (i := 7) rfl) rfl
        have t7 : ρ (.tmp 7) = .agg #[.int .i64 f.orig.proto, .int .i64 f.orig.src, .int .i64 f.orig.sport, .int .i64 f.orig.dst, .int .i64 f.orig.dport, .int .i64 f.orig.kind, .int .i64 f.back.proto, .int .i64 f.back.src, .int .i64 f.back.sport, .int .i64 f.back.dst, .int .i64 f.back.dport, .int .i64 f.back.kind, .int .i64 f.state, .bool f.seen, .bool f.sure, .int .i64 f.till, .int .i64 f.count] := (ks 0 7 (by decide) rfl).trans d0
        simp [execOp, go_sem, kc, t7, kf]
        exact Calls.mono (HR.out W) (fun e x h => ⟨_, h.1, hC.trans (h.2.mono hC.size), h.2, rfl⟩)
      · refine stepW_of_u ⟨rfl, fun v W ρ hC kc kf ks ki kd => ?_⟩
        have d1 : v 1 = .bool false := by first | exact kd _ (mem0 rfl) rfl | exact kd _ (mem1 rfl) rfl | exact kd _ (mem2 rfl) rfl | exact kd _ (mem3 rfl) rfl | exact kd _ (mem4 rfl) rfl | exact kd _ (mem5 rfl) rfl | exact kd _ (Array.mem_of_getElem? (i := 6) rfl) rfl | exact kd _ (Array.mem_of_getElem? (i := 7) rfl) rfl
        have t8 : ρ (.tmp 8) = .bool false := (ks 1 8 (by decide) rfl).trans d1
        simp [execOp, go_sem, kc, t8]
        exact ⟨hC, Below.refl _ _, rfl⟩
      · refine stepW_of_u ⟨rfl, fun v W ρ hC kc kf ks ki kd => ?_⟩
        have d2 : v 2 = .bool true := by first | exact kd _ (mem0 rfl) rfl | exact kd _ (mem1 rfl) rfl | exact kd _ (mem2 rfl) rfl | exact kd _ (mem3 rfl) rfl | exact kd _ (mem4 rfl) rfl | exact kd _ (mem5 rfl) rfl | exact kd _ (Array.mem_of_getElem? (i := 6) rfl) rfl | exact kd _ (Array.mem_of_getElem? (i := 7) rfl) rfl
        have t9 : ρ (.tmp 9) = .bool true := (ks 2 9 (by decide) rfl).trans d2
        simp [execOp, go_sem, kc, t9]
        exact ⟨hC, Below.refl _ _, rfl⟩
      · intro v W ρ y hC kc kf ks ki ky ku kd
        have dg : v 3 = .bool true := by first | exact kd _ (mem0 rfl) rfl | exact kd _ (mem1 rfl) rfl | exact kd _ (mem2 rfl) rfl | exact kd _ (mem3 rfl) rfl | exact kd _ (mem4 rfl) rfl | exact kd _ (mem5 rfl) rfl | exact kd _ (Array.mem_of_getElem? (i := 6) rfl) rfl | exact kd _ (Array.mem_of_getElem? (i := 7) rfl) rfl
        have hy := ky 3 10 true (by decide) rfl dg
        rw [if_neg (by simp [Region.wanted, hy])]
        exact ⟨Below.refl _ _, rfl⟩
      · intro v W ρ y hC kc kf ks ki ky ku kd
        have dg : v 3 = .bool true := by first | exact kd _ (mem0 rfl) rfl | exact kd _ (mem1 rfl) rfl | exact kd _ (mem2 rfl) rfl | exact kd _ (mem3 rfl) rfl | exact kd _ (mem4 rfl) rfl | exact kd _ (mem5 rfl) rfl | exact kd _ (Array.mem_of_getElem? (i := 6) rfl) rfl | exact kd _ (Array.mem_of_getElem? (i := 7) rfl) rfl
        have hy := ky 3 10 true (by decide) rfl dg
        rw [if_neg (by simp [Region.wanted, hy])]
        exact ⟨Below.refl _ _, rfl⟩
      · intro v W ρ y hC kc kf ks ki ky ku kd
        have dg : v 3 = .bool true := by first | exact kd _ (mem0 rfl) rfl | exact kd _ (mem1 rfl) rfl | exact kd _ (mem2 rfl) rfl | exact kd _ (mem3 rfl) rfl | exact kd _ (mem4 rfl) rfl | exact kd _ (mem5 rfl) rfl | exact kd _ (Array.mem_of_getElem? (i := 6) rfl) rfl | exact kd _ (Array.mem_of_getElem? (i := 7) rfl) rfl
        have hy := ky 3 10 true (by decide) rfl dg
        rw [if_neg (by simp [Region.wanted, hy])]
        exact ⟨Below.refl _ _, rfl⟩
      · refine stepW_of_u ⟨rfl, fun v W ρ hC kc kf ks ki kd => ?_⟩
        have d3 : v 3 = .bool true := by first | exact kd _ (mem0 rfl) rfl | exact kd _ (mem1 rfl) rfl | exact kd _ (mem2 rfl) rfl | exact kd _ (mem3 rfl) rfl | exact kd _ (mem4 rfl) rfl | exact kd _ (mem5 rfl) rfl | exact kd _ (Array.mem_of_getElem? (i := 6) rfl) rfl | exact kd _ (Array.mem_of_getElem? (i := 7) rfl) rfl
        have t10 : ρ (.tmp 10) = .bool true := (ks 3 10 (by decide) rfl).trans d3
        simp [execOp, go_sem, kc, t10]
        exact ⟨hC, Below.refl _ _, rfl⟩
      · refine stepW_of_u ⟨rfl, fun v W ρ hC kc kf ks ki kd => ?_⟩
        have d7 : v 7 = .bool true := by first | exact kd _ (mem0 rfl) rfl | exact kd _ (mem1 rfl) rfl | exact kd _ (mem2 rfl) rfl | exact kd _ (mem3 rfl) rfl | exact kd _ (mem4 rfl) rfl | exact kd _ (mem5 rfl) rfl | exact kd _ (Array.mem_of_getElem? (i := 6) rfl) rfl | exact kd _ (Array.mem_of_getElem? (i := 7) rfl) rfl
        have t14 : ρ (.tmp 14) = .bool true := (ks 7 14 (by decide) rfl).trans d7
        simp [execOp, go_sem, kc, t14]
        exact ⟨hC, Below.refl _ _, rfl⟩
      · intro v W ρ y hC kc kf ks ki ky ku kd
        have dg : v 8 = .bool true := by first | exact kd _ (mem0 rfl) rfl | exact kd _ (mem1 rfl) rfl | exact kd _ (mem2 rfl) rfl | exact kd _ (mem3 rfl) rfl | exact kd _ (mem4 rfl) rfl | exact kd _ (mem5 rfl) rfl | exact kd _ (Array.mem_of_getElem? (i := 6) rfl) rfl | exact kd _ (Array.mem_of_getElem? (i := 7) rfl) rfl
        have hy := ky 8 15 true (by decide) rfl dg
        rw [if_neg (by simp [Region.wanted, hy])]
        exact ⟨Below.refl _ _, rfl⟩
      · intro v W ρ y hC kc kf ks ki ky ku kd
        have dg : v 8 = .bool true := by first | exact kd _ (mem0 rfl) rfl | exact kd _ (mem1 rfl) rfl | exact kd _ (mem2 rfl) rfl | exact kd _ (mem3 rfl) rfl | exact kd _ (mem4 rfl) rfl | exact kd _ (mem5 rfl) rfl | exact kd _ (Array.mem_of_getElem? (i := 6) rfl) rfl | exact kd _ (Array.mem_of_getElem? (i := 7) rfl) rfl
        have hy := ky 8 15 true (by decide) rfl dg
        rw [if_neg (by simp [Region.wanted, hy])]
        exact ⟨Below.refl _ _, rfl⟩
      · intro v W ρ y hC kc kf ks ki ky ku kd
        have dg : v 8 = .bool true := by first | exact kd _ (mem0 rfl) rfl | exact kd _ (mem1 rfl) rfl | exact kd _ (mem2 rfl) rfl | exact kd _ (mem3 rfl) rfl | exact kd _ (mem4 rfl) rfl | exact kd _ (mem5 rfl) rfl | exact kd _ (Array.mem_of_getElem? (i := 6) rfl) rfl | exact kd _ (Array.mem_of_getElem? (i := 7) rfl) rfl
        have hy := ky 8 15 true (by decide) rfl dg
        rw [if_neg (by simp [Region.wanted, hy])]
        exact ⟨Below.refl _ _, rfl⟩
      · intro v W ρ y hC kc kf ks ki ky ku kd
        have dg : v 8 = .bool true := by first | exact kd _ (mem0 rfl) rfl | exact kd _ (mem1 rfl) rfl | exact kd _ (mem2 rfl) rfl | exact kd _ (mem3 rfl) rfl | exact kd _ (mem4 rfl) rfl | exact kd _ (mem5 rfl) rfl | exact kd _ (Array.mem_of_getElem? (i := 6) rfl) rfl | exact kd _ (Array.mem_of_getElem? (i := 7) rfl) rfl
        have hy := ky 8 15 true (by decide) rfl dg
        rw [if_neg (by simp [Region.wanted, hy])]
        exact ⟨Below.refl _ _, rfl⟩
      · intro v W ρ y hC kc kf ks ki ky ku kd
        have dg : v 8 = .bool true := by first | exact kd _ (mem0 rfl) rfl | exact kd _ (mem1 rfl) rfl | exact kd _ (mem2 rfl) rfl | exact kd _ (mem3 rfl) rfl | exact kd _ (mem4 rfl) rfl | exact kd _ (mem5 rfl) rfl | exact kd _ (Array.mem_of_getElem? (i := 6) rfl) rfl | exact kd _ (Array.mem_of_getElem? (i := 7) rfl) rfl
        have hy := ky 8 15 true (by decide) rfl dg
        rw [if_neg (by simp [Region.wanted, hy])]
        exact ⟨Below.refl _ _, rfl⟩
      · intro v W ρ y hC kc kf ks ki ky ku kd
        have dg : v 8 = .bool true := by first | exact kd _ (mem0 rfl) rfl | exact kd _ (mem1 rfl) rfl | exact kd _ (mem2 rfl) rfl | exact kd _ (mem3 rfl) rfl | exact kd _ (mem4 rfl) rfl | exact kd _ (mem5 rfl) rfl | exact kd _ (Array.mem_of_getElem? (i := 6) rfl) rfl | exact kd _ (Array.mem_of_getElem? (i := 7) rfl) rfl
        have hy := ky 8 15 true (by decide) rfl dg
        rw [if_neg (by simp [Region.wanted, hy])]
        exact ⟨Below.refl _ _, rfl⟩
      · refine stepW_of_u ⟨rfl, fun v W ρ hC kc kf ks ki kd => ?_⟩
        have d8 : v 8 = .bool true := by first | exact kd _ (mem0 rfl) rfl | exact kd _ (mem1 rfl) rfl | exact kd _ (mem2 rfl) rfl | exact kd _ (mem3 rfl) rfl | exact kd _ (mem4 rfl) rfl | exact kd _ (mem5 rfl) rfl | exact kd _ (Array.mem_of_getElem? (i := 6) rfl) rfl | exact kd _ (Array.mem_of_getElem? (i := 7) rfl) rfl
        have t15 : ρ (.tmp 15) = .bool true := (ks 8 15 (by decide) rfl).trans d8
        simp [execOp, go_sem, kc, t15]
        exact ⟨hC, Below.refl _ _, rfl⟩
    intro vA_1 w1 hb1 hall
    have hvA_1 : vA_1 15 = .bool true := hall 15 (by decide)
    simp [upto, Act.put]
    rw [hvA_1]
    clear hall hvA_1
    have hGF1 := hidS (blk_later hGF0.out hb1)
    have hGP1 := hidS (blk_later hGP0.out hb1)
    have hGR1 := hidS (blk_later hGR0.out hb1)
    have hL1 := hidS (hL0.out.trans (hb1.mono hL0.out.size))
    clear hb1 hL0 hGF0 hGP0 hGR0
    have E0 : Hid (isOfF f p b = false) := by show _ = _; rw [EB.out, h0]; rfl
    have EA : Hid (outP f p b = zeroPk) := hidS (if_neg (by rw [E0.out]; simp))
    have EC : Hid (outC f p b = 1) := hidS (if_neg (by rw [E0.out]; simp))
    go_upto_region 2 with fail
    refine plain_into 1 _ [.is (.agg #[.int .i64 0, .int .i64 0, .int .i64 0, .int .i64 0, .int .i64 0, .int .i64 0, .int .i64 0, .int .i64 0, .int .i64 0, .string ⟨#[]⟩, .int .i64 1])] 0 6 23 31 31 (w.heap.size + 2) #[.int .i64 0, .int .i64 0, .int .i64 0, .int .i64 0, .int .i64 0, .int .i64 0, .int .i64 0, .int .i64 0, .int .i64 0, .string ⟨#[]⟩, .int .i64 0] #[.int .i64 0, .int .i64 0, .int .i64 0, .int .i64 0, .int .i64 0, .int .i64 0, .int .i64 0, .int .i64 0, .int .i64 0, .string ⟨#[]⟩, .int .i64 1] rfl rfl rfl (by kernel_rfl) (by kernel_rfl) (by kernel_rfl) rfl rfl (by decide) (by kernel_rfl) (by kernel_rfl) (by decide) hGR1.out (by kernel_rfl) (by kernel_rfl) (by first | kernel_rfl | simp [Value.oneCell']) (by kernel_rfl) ?stepsZ_2 ?finZ_2
    case stepsZ_2 =>
      refine ⟨?_, trivial⟩
      · refine ⟨rfl, fun v W ρ hC kc kf ks ki kd => ?_⟩
        simp [execOp, go_sem, kc, ]
        exact ⟨hC, Below.refl _ _, rfl⟩
    intro vZ_2 WZ_2 hBZ_2 hgZ_2 hall
    simp [upto, Act.put]
    clear hall
    have hEZ_2 := hidS (hL1.out.trans (hBZ_2 w.heap.size (by omega)))
    have hcZ_2 := loadVar_blk (P := Tryd.prog) hgZ_2 Tryd.underlying31 rfl (by kernel_rfl)
    clear hBZ_2 hgZ_2 hL1 hGF1 hGP1 hGR1
    go_wp2_with fail
    exact bodyPost_ret (v := .agg #[.int .i64 0, .int .i64 0, .int .i64 0, .int .i64 0, .int .i64 0, .int .i64 0, .int .i64 0, .int .i64 0, .int .i64 0, .string ⟨#[]⟩, .int .i64 1]) (results_cell Tryd.results6 rfl hcZ_2) rfl ⟨by rw [EA.out, EC.out]; rfl, hEZ_2.out⟩
  rw [h0] at HR
  cases h1 : (packB p)
  · rw [h1] at HP
    refine grow_guarded 16 [.is (.agg #[.int .i64 f.orig.proto, .int .i64 f.orig.src, .int .i64 f.orig.sport, .int .i64 f.orig.dst, .int .i64 f.orig.dport, .int .i64 f.orig.kind, .int .i64 f.back.proto, .int .i64 f.back.src, .int .i64 f.back.sport, .int .i64 f.back.dst, .int .i64 f.back.dport, .int .i64 f.back.kind, .int .i64 f.state, .bool f.seen, .bool f.sure, .int .i64 f.till, .int .i64 f.count]), .is (.bool true), .is (.bool false), .is (.bool false), .is (.agg #[.int .i64 p.src, .int .i64 p.dst, .int .i64 p.proto, .int .i64 p.a, .int .i64 p.b, .int .i64 p.kind, .int .i64 p.flags, .int .i64 p.seq, .int .i64 p.ack, .string p.body]), .is (.bool false), .is (.bool true), .is (.bool true), .is (.bool true), .is (undef), .is (undef), .is (undef), .is (undef), .is (undef), .is (undef), .is (.bool true)] rfl (by kernel_rfl) (by kernel_rfl) ?stepsA_3 ?finA_3
    case stepsA_3 =>
      refine ⟨?_, ?_, ?_, ?_, ?_, ?_, ?_, ?_, ?_, ?_, ?_, ?_, ?_, ?_, ?_, ?_, trivial⟩
      · refine stepW_of_u ⟨rfl, fun v W ρ hC kc kf ks ki kd => ?_⟩
        have t3 : ρ (.tmp 3) = .pointer (some ⟨w.heap.size, 0, none⟩) := ki 3 (by decide)
        simp only [execOp, t3, Sem.run_bind, loadAt_part (o := 0) [.int .i64 f.orig.proto, .int .i64 f.orig.src, .int .i64 f.orig.sport, .int .i64 f.orig.dst, .int .i64 f.orig.dport, .int .i64 f.orig.kind, .int .i64 f.back.proto, .int .i64 f.back.src, .int .i64 f.back.sport, .int .i64 f.back.dst, .int .i64 f.back.dport, .int .i64 f.back.kind, .int .i64 f.state, .bool f.seen, .bool f.sure, .int .i64 f.till, .int .i64 f.count] (blk_later hGF0.out hC) rfl Tryd.underlying35 rfl (by kernel_rfl), Result.andThen_ok, Sem.run_pure]
        exact ⟨hC, Below.refl _ _, rfl⟩
      · refine stepW_of_u ⟨rfl, fun v W ρ hC kc kf ks ki kd => ?_⟩
        have d0 : v 0 = .agg #[.int .i64 f.orig.proto, .int .i64 f.orig.src, .int .i64 f.orig.sport, .int .i64 f.orig.dst, .int .i64 f.orig.dport, .int .i64 f.orig.kind, .int .i64 f.back.proto, .int .i64 f.back.src, .int .i64 f.back.sport, .int .i64 f.back.dst, .int .i64 f.back.dport, .int .i64 f.back.kind, .int .i64 f.state, .bool f.seen, .bool f.sure, .int .i64 f.till, .int .i64 f.count] := by first | exact kd _ (mem0 rfl) rfl | exact kd _ (mem1 rfl) rfl | exact kd _ (mem2 rfl) rfl | exact kd _ (mem3 rfl) rfl | exact kd _ (mem4 rfl) rfl | exact kd _ (mem5 rfl) rfl | exact kd _ (Array.mem_of_getElem? (i := 6) rfl) rfl | exact kd _ (Array.mem_of_getElem? (i := 7) rfl) rfl
        have t7 : ρ (.tmp 7) = .agg #[.int .i64 f.orig.proto, .int .i64 f.orig.src, .int .i64 f.orig.sport, .int .i64 f.orig.dst, .int .i64 f.orig.dport, .int .i64 f.orig.kind, .int .i64 f.back.proto, .int .i64 f.back.src, .int .i64 f.back.sport, .int .i64 f.back.dst, .int .i64 f.back.dport, .int .i64 f.back.kind, .int .i64 f.state, .bool f.seen, .bool f.sure, .int .i64 f.till, .int .i64 f.count] := (ks 0 7 (by decide) rfl).trans d0
        simp [execOp, go_sem, kc, t7, kf]
        exact Calls.mono (HR.out W) (fun e x h => ⟨_, h.1, hC.trans (h.2.mono hC.size), h.2, rfl⟩)
      · refine stepW_of_u ⟨rfl, fun v W ρ hC kc kf ks ki kd => ?_⟩
        have d1 : v 1 = .bool true := by first | exact kd _ (mem0 rfl) rfl | exact kd _ (mem1 rfl) rfl | exact kd _ (mem2 rfl) rfl | exact kd _ (mem3 rfl) rfl | exact kd _ (mem4 rfl) rfl | exact kd _ (mem5 rfl) rfl | exact kd _ (Array.mem_of_getElem? (i := 6) rfl) rfl | exact kd _ (Array.mem_of_getElem? (i := 7) rfl) rfl
        have t8 : ρ (.tmp 8) = .bool true := (ks 1 8 (by decide) rfl).trans d1
        simp [execOp, go_sem, kc, t8]
        exact ⟨hC, Below.refl _ _, rfl⟩
      · refine stepW_of_u ⟨rfl, fun v W ρ hC kc kf ks ki kd => ?_⟩
        have d2 : v 2 = .bool false := by first | exact kd _ (mem0 rfl) rfl | exact kd _ (mem1 rfl) rfl | exact kd _ (mem2 rfl) rfl | exact kd _ (mem3 rfl) rfl | exact kd _ (mem4 rfl) rfl | exact kd _ (mem5 rfl) rfl | exact kd _ (Array.mem_of_getElem? (i := 6) rfl) rfl | exact kd _ (Array.mem_of_getElem? (i := 7) rfl) rfl
        have t9 : ρ (.tmp 9) = .bool false := (ks 2 9 (by decide) rfl).trans d2
        simp [execOp, go_sem, kc, t9]
        exact ⟨hC, Below.refl _ _, rfl⟩
      · intro v W ρ y hC kc kf ks ki ky ku kd
        have dg : v 3 = .bool false := by first | exact kd _ (mem0 rfl) rfl | exact kd _ (mem1 rfl) rfl | exact kd _ (mem2 rfl) rfl | exact kd _ (mem3 rfl) rfl | exact kd _ (mem4 rfl) rfl | exact kd _ (mem5 rfl) rfl | exact kd _ (Array.mem_of_getElem? (i := 6) rfl) rfl | exact kd _ (Array.mem_of_getElem? (i := 7) rfl) rfl
        have hy := ky 3 10 false (by decide) rfl dg
        rw [if_pos (by simp [Region.wanted, hy])]
        have t4 : ρ (.tmp 4) = .pointer (some ⟨w.heap.size + 1, 0, none⟩) := ki 4 (by decide)
        have hg := blk_later hGP0.out hC
        have c0 := blk_cell hg 0
        have c1 := blk_cell hg 1
        have c2 := blk_cell hg 2
        have c3 := blk_cell hg 3
        have c4 := blk_cell hg 4
        have c5 := blk_cell hg 5
        have c6 := blk_cell hg 6
        have c7 := blk_cell hg 7
        have c8 := blk_cell hg 8
        have c9 := blk_cell hg 9
        simp at c0 c1 c2 c3 c4 c5 c6 c7 c8 c9
        simp [execOp, go_sem, kc, t4, c0, c1, c2, c3, c4, c5, c6, c7, c8, c9]
        exact ⟨hC, Below.refl _ _, rfl⟩
      · intro v W ρ y hC kc kf ks ki ky ku kd
        have dg : v 3 = .bool false := by first | exact kd _ (mem0 rfl) rfl | exact kd _ (mem1 rfl) rfl | exact kd _ (mem2 rfl) rfl | exact kd _ (mem3 rfl) rfl | exact kd _ (mem4 rfl) rfl | exact kd _ (mem5 rfl) rfl | exact kd _ (Array.mem_of_getElem? (i := 6) rfl) rfl | exact kd _ (Array.mem_of_getElem? (i := 7) rfl) rfl
        have hy := ky 3 10 false (by decide) rfl dg
        rw [if_pos (by simp [Region.wanted, hy])]
        have d4 : v 4 = .agg #[.int .i64 p.src, .int .i64 p.dst, .int .i64 p.proto, .int .i64 p.a, .int .i64 p.b, .int .i64 p.kind, .int .i64 p.flags, .int .i64 p.seq, .int .i64 p.ack, .string p.body] := by first | exact kd _ (mem0 rfl) rfl | exact kd _ (mem1 rfl) rfl | exact kd _ (mem2 rfl) rfl | exact kd _ (mem3 rfl) rfl | exact kd _ (mem4 rfl) rfl | exact kd _ (mem5 rfl) rfl | exact kd _ (Array.mem_of_getElem? (i := 6) rfl) rfl | exact kd _ (Array.mem_of_getElem? (i := 7) rfl) rfl
        have t11 : ρ (.tmp 11) = .agg #[.int .i64 p.src, .int .i64 p.dst, .int .i64 p.proto, .int .i64 p.a, .int .i64 p.b, .int .i64 p.kind, .int .i64 p.flags, .int .i64 p.seq, .int .i64 p.ack, .string p.body] := (ks 4 11 (by decide) rfl).trans d4
        simp [execOp, go_sem, kc, t11, kf]
        exact Calls.mono (HP.out W) (fun e x h => ⟨_, h.1, hC.trans (h.2.mono hC.size), h.2, rfl⟩)
      · intro v W ρ y hC kc kf ks ki ky ku kd
        have dg : v 3 = .bool false := by first | exact kd _ (mem0 rfl) rfl | exact kd _ (mem1 rfl) rfl | exact kd _ (mem2 rfl) rfl | exact kd _ (mem3 rfl) rfl | exact kd _ (mem4 rfl) rfl | exact kd _ (mem5 rfl) rfl | exact kd _ (Array.mem_of_getElem? (i := 6) rfl) rfl | exact kd _ (Array.mem_of_getElem? (i := 7) rfl) rfl
        have hy := ky 3 10 false (by decide) rfl dg
        rw [if_pos (by simp [Region.wanted, hy])]
        have d5 : v 5 = .bool false := by first | exact kd _ (mem0 rfl) rfl | exact kd _ (mem1 rfl) rfl | exact kd _ (mem2 rfl) rfl | exact kd _ (mem3 rfl) rfl | exact kd _ (mem4 rfl) rfl | exact kd _ (mem5 rfl) rfl | exact kd _ (Array.mem_of_getElem? (i := 6) rfl) rfl | exact kd _ (Array.mem_of_getElem? (i := 7) rfl) rfl
        have t12 : ρ (.tmp 12) = .bool false := (ks 5 12 (by decide) rfl).trans d5
        simp [execOp, go_sem, kc, t12]
        exact ⟨hC, Below.refl _ _, rfl⟩
      · refine stepW_of_u ⟨rfl, fun v W ρ hC kc kf ks ki kd => ?_⟩
        have d3 : v 3 = .bool false := by first | exact kd _ (mem0 rfl) rfl | exact kd _ (mem1 rfl) rfl | exact kd _ (mem2 rfl) rfl | exact kd _ (mem3 rfl) rfl | exact kd _ (mem4 rfl) rfl | exact kd _ (mem5 rfl) rfl | exact kd _ (Array.mem_of_getElem? (i := 6) rfl) rfl | exact kd _ (Array.mem_of_getElem? (i := 7) rfl) rfl
        have t10 : ρ (.tmp 10) = .bool false := (ks 3 10 (by decide) rfl).trans d3
        have d6 : v 6 = .bool true := by first | exact kd _ (mem0 rfl) rfl | exact kd _ (mem1 rfl) rfl | exact kd _ (mem2 rfl) rfl | exact kd _ (mem3 rfl) rfl | exact kd _ (mem4 rfl) rfl | exact kd _ (mem5 rfl) rfl | exact kd _ (Array.mem_of_getElem? (i := 6) rfl) rfl | exact kd _ (Array.mem_of_getElem? (i := 7) rfl) rfl
        have t13 : ρ (.tmp 13) = .bool true := (ks 6 13 (by decide) rfl).trans d6
        simp [execOp, go_sem, kc, t10, t13]
        exact ⟨hC, Below.refl _ _, rfl⟩
      · refine stepW_of_u ⟨rfl, fun v W ρ hC kc kf ks ki kd => ?_⟩
        have d7 : v 7 = .bool true := by first | exact kd _ (mem0 rfl) rfl | exact kd _ (mem1 rfl) rfl | exact kd _ (mem2 rfl) rfl | exact kd _ (mem3 rfl) rfl | exact kd _ (mem4 rfl) rfl | exact kd _ (mem5 rfl) rfl | exact kd _ (Array.mem_of_getElem? (i := 6) rfl) rfl | exact kd _ (Array.mem_of_getElem? (i := 7) rfl) rfl
        have t14 : ρ (.tmp 14) = .bool true := (ks 7 14 (by decide) rfl).trans d7
        simp [execOp, go_sem, kc, t14]
        exact ⟨hC, Below.refl _ _, rfl⟩
      · intro v W ρ y hC kc kf ks ki ky ku kd
        have dg : v 8 = .bool true := by first | exact kd _ (mem0 rfl) rfl | exact kd _ (mem1 rfl) rfl | exact kd _ (mem2 rfl) rfl | exact kd _ (mem3 rfl) rfl | exact kd _ (mem4 rfl) rfl | exact kd _ (mem5 rfl) rfl | exact kd _ (Array.mem_of_getElem? (i := 6) rfl) rfl | exact kd _ (Array.mem_of_getElem? (i := 7) rfl) rfl
        have hy := ky 8 15 true (by decide) rfl dg
        rw [if_neg (by simp [Region.wanted, hy])]
        exact ⟨Below.refl _ _, rfl⟩
      · intro v W ρ y hC kc kf ks ki ky ku kd
        have dg : v 8 = .bool true := by first | exact kd _ (mem0 rfl) rfl | exact kd _ (mem1 rfl) rfl | exact kd _ (mem2 rfl) rfl | exact kd _ (mem3 rfl) rfl | exact kd _ (mem4 rfl) rfl | exact kd _ (mem5 rfl) rfl | exact kd _ (Array.mem_of_getElem? (i := 6) rfl) rfl | exact kd _ (Array.mem_of_getElem? (i := 7) rfl) rfl
        have hy := ky 8 15 true (by decide) rfl dg
        rw [if_neg (by simp [Region.wanted, hy])]
        exact ⟨Below.refl _ _, rfl⟩
      · intro v W ρ y hC kc kf ks ki ky ku kd
        have dg : v 8 = .bool true := by first | exact kd _ (mem0 rfl) rfl | exact kd _ (mem1 rfl) rfl | exact kd _ (mem2 rfl) rfl | exact kd _ (mem3 rfl) rfl | exact kd _ (mem4 rfl) rfl | exact kd _ (mem5 rfl) rfl | exact kd _ (Array.mem_of_getElem? (i := 6) rfl) rfl | exact kd _ (Array.mem_of_getElem? (i := 7) rfl) rfl
        have hy := ky 8 15 true (by decide) rfl dg
        rw [if_neg (by simp [Region.wanted, hy])]
        exact ⟨Below.refl _ _, rfl⟩
      · intro v W ρ y hC kc kf ks ki ky ku kd
        have dg : v 8 = .bool true := by first | exact kd _ (mem0 rfl) rfl | exact kd _ (mem1 rfl) rfl | exact kd _ (mem2 rfl) rfl | exact kd _ (mem3 rfl) rfl | exact kd _ (mem4 rfl) rfl | exact kd _ (mem5 rfl) rfl | exact kd _ (Array.mem_of_getElem? (i := 6) rfl) rfl | exact kd _ (Array.mem_of_getElem? (i := 7) rfl) rfl
        have hy := ky 8 15 true (by decide) rfl dg
        rw [if_neg (by simp [Region.wanted, hy])]
        exact ⟨Below.refl _ _, rfl⟩
      · intro v W ρ y hC kc kf ks ki ky ku kd
        have dg : v 8 = .bool true := by first | exact kd _ (mem0 rfl) rfl | exact kd _ (mem1 rfl) rfl | exact kd _ (mem2 rfl) rfl | exact kd _ (mem3 rfl) rfl | exact kd _ (mem4 rfl) rfl | exact kd _ (mem5 rfl) rfl | exact kd _ (Array.mem_of_getElem? (i := 6) rfl) rfl | exact kd _ (Array.mem_of_getElem? (i := 7) rfl) rfl
        have hy := ky 8 15 true (by decide) rfl dg
        rw [if_neg (by simp [Region.wanted, hy])]
        exact ⟨Below.refl _ _, rfl⟩
      · intro v W ρ y hC kc kf ks ki ky ku kd
        have dg : v 8 = .bool true := by first | exact kd _ (mem0 rfl) rfl | exact kd _ (mem1 rfl) rfl | exact kd _ (mem2 rfl) rfl | exact kd _ (mem3 rfl) rfl | exact kd _ (mem4 rfl) rfl | exact kd _ (mem5 rfl) rfl | exact kd _ (Array.mem_of_getElem? (i := 6) rfl) rfl | exact kd _ (Array.mem_of_getElem? (i := 7) rfl) rfl
        have hy := ky 8 15 true (by decide) rfl dg
        rw [if_neg (by simp [Region.wanted, hy])]
        exact ⟨Below.refl _ _, rfl⟩
      · refine stepW_of_u ⟨rfl, fun v W ρ hC kc kf ks ki kd => ?_⟩
        have d8 : v 8 = .bool true := by first | exact kd _ (mem0 rfl) rfl | exact kd _ (mem1 rfl) rfl | exact kd _ (mem2 rfl) rfl | exact kd _ (mem3 rfl) rfl | exact kd _ (mem4 rfl) rfl | exact kd _ (mem5 rfl) rfl | exact kd _ (Array.mem_of_getElem? (i := 6) rfl) rfl | exact kd _ (Array.mem_of_getElem? (i := 7) rfl) rfl
        have t15 : ρ (.tmp 15) = .bool true := (ks 8 15 (by decide) rfl).trans d8
        simp [execOp, go_sem, kc, t15]
        exact ⟨hC, Below.refl _ _, rfl⟩
    intro vA_3 w1 hb1 hall
    have hvA_3 : vA_3 15 = .bool true := hall 15 (by decide)
    simp [upto, Act.put]
    rw [hvA_3]
    clear hall hvA_3
    have hGF1 := hidS (blk_later hGF0.out hb1)
    have hGP1 := hidS (blk_later hGP0.out hb1)
    have hGR1 := hidS (blk_later hGR0.out hb1)
    have hL1 := hidS (hL0.out.trans (hb1.mono hL0.out.size))
    clear hb1 hL0 hGF0 hGP0 hGR0
    have E0 : Hid (isOfF f p b = false) := by show _ = _; rw [EB.out, h0, h1]; rfl
    have EA : Hid (outP f p b = zeroPk) := hidS (if_neg (by rw [E0.out]; simp))
    have EC : Hid (outC f p b = 1) := hidS (if_neg (by rw [E0.out]; simp))
    go_upto_region 2 with fail
    refine plain_into 1 _ [.is (.agg #[.int .i64 0, .int .i64 0, .int .i64 0, .int .i64 0, .int .i64 0, .int .i64 0, .int .i64 0, .int .i64 0, .int .i64 0, .string ⟨#[]⟩, .int .i64 1])] 0 6 23 31 31 (w.heap.size + 2) #[.int .i64 0, .int .i64 0, .int .i64 0, .int .i64 0, .int .i64 0, .int .i64 0, .int .i64 0, .int .i64 0, .int .i64 0, .string ⟨#[]⟩, .int .i64 0] #[.int .i64 0, .int .i64 0, .int .i64 0, .int .i64 0, .int .i64 0, .int .i64 0, .int .i64 0, .int .i64 0, .int .i64 0, .string ⟨#[]⟩, .int .i64 1] rfl rfl rfl (by kernel_rfl) (by kernel_rfl) (by kernel_rfl) rfl rfl (by decide) (by kernel_rfl) (by kernel_rfl) (by decide) hGR1.out (by kernel_rfl) (by kernel_rfl) (by first | kernel_rfl | simp [Value.oneCell']) (by kernel_rfl) ?stepsZ_4 ?finZ_4
    case stepsZ_4 =>
      refine ⟨?_, trivial⟩
      · refine ⟨rfl, fun v W ρ hC kc kf ks ki kd => ?_⟩
        simp [execOp, go_sem, kc, ]
        exact ⟨hC, Below.refl _ _, rfl⟩
    intro vZ_4 WZ_4 hBZ_4 hgZ_4 hall
    simp [upto, Act.put]
    clear hall
    have hEZ_4 := hidS (hL1.out.trans (hBZ_4 w.heap.size (by omega)))
    have hcZ_4 := loadVar_blk (P := Tryd.prog) hgZ_4 Tryd.underlying31 rfl (by kernel_rfl)
    clear hBZ_4 hgZ_4 hL1 hGF1 hGP1 hGR1
    go_wp2_with fail
    exact bodyPost_ret (v := .agg #[.int .i64 0, .int .i64 0, .int .i64 0, .int .i64 0, .int .i64 0, .int .i64 0, .int .i64 0, .int .i64 0, .int .i64 0, .string ⟨#[]⟩, .int .i64 1]) (results_cell Tryd.results6 rfl hcZ_4) rfl ⟨by rw [EA.out, EC.out]; rfl, hEZ_4.out⟩
  rw [h1] at HP
  cases h2 : (sameT (ofP p) (sideF f b))
  · rw [h2] at HQ
    simp only [Bool.not_false] at HQ
    refine grow_guarded 16 [.is (.agg #[.int .i64 f.orig.proto, .int .i64 f.orig.src, .int .i64 f.orig.sport, .int .i64 f.orig.dst, .int .i64 f.orig.dport, .int .i64 f.orig.kind, .int .i64 f.back.proto, .int .i64 f.back.src, .int .i64 f.back.sport, .int .i64 f.back.dst, .int .i64 f.back.dport, .int .i64 f.back.kind, .int .i64 f.state, .bool f.seen, .bool f.sure, .int .i64 f.till, .int .i64 f.count]), .is (.bool true), .is (.bool false), .is (.bool false), .is (.agg #[.int .i64 p.src, .int .i64 p.dst, .int .i64 p.proto, .int .i64 p.a, .int .i64 p.b, .int .i64 p.kind, .int .i64 p.flags, .int .i64 p.seq, .int .i64 p.ack, .string p.body]), .is (.bool true), .is (.bool false), .is (.bool false), .is (.bool false), .is (.agg #[.int .i64 p.src, .int .i64 p.dst, .int .i64 p.proto, .int .i64 p.a, .int .i64 p.b, .int .i64 p.kind, .int .i64 p.flags, .int .i64 p.seq, .int .i64 p.ack, .string p.body]), .is (.agg #[.int .i64 (ofP p).proto, .int .i64 (ofP p).src, .int .i64 (ofP p).sport, .int .i64 (ofP p).dst, .int .i64 (ofP p).dport, .int .i64 (ofP p).kind]), .is (.agg #[.int .i64 f.orig.proto, .int .i64 f.orig.src, .int .i64 f.orig.sport, .int .i64 f.orig.dst, .int .i64 f.orig.dport, .int .i64 f.orig.kind, .int .i64 f.back.proto, .int .i64 f.back.src, .int .i64 f.back.sport, .int .i64 f.back.dst, .int .i64 f.back.dport, .int .i64 f.back.kind, .int .i64 f.state, .bool f.seen, .bool f.sure, .int .i64 f.till, .int .i64 f.count]), .is (.bool b), .is (.agg #[.int .i64 (sideF f b).proto, .int .i64 (sideF f b).src, .int .i64 (sideF f b).sport, .int .i64 (sideF f b).dst, .int .i64 (sideF f b).dport, .int .i64 (sideF f b).kind]), .is (.bool true), .is (.bool true)] rfl (by kernel_rfl) (by kernel_rfl) ?stepsA_5 ?finA_5
    case stepsA_5 =>
      refine ⟨?_, ?_, ?_, ?_, ?_, ?_, ?_, ?_, ?_, ?_, ?_, ?_, ?_, ?_, ?_, ?_, trivial⟩
      · refine stepW_of_u ⟨rfl, fun v W ρ hC kc kf ks ki kd => ?_⟩
        have t3 : ρ (.tmp 3) = .pointer (some ⟨w.heap.size, 0, none⟩) := ki 3 (by decide)
        simp only [execOp, t3, Sem.run_bind, loadAt_part (o := 0) [.int .i64 f.orig.proto, .int .i64 f.orig.src, .int .i64 f.orig.sport, .int .i64 f.orig.dst, .int .i64 f.orig.dport, .int .i64 f.orig.kind, .int .i64 f.back.proto, .int .i64 f.back.src, .int .i64 f.back.sport, .int .i64 f.back.dst, .int .i64 f.back.dport, .int .i64 f.back.kind, .int .i64 f.state, .bool f.seen, .bool f.sure, .int .i64 f.till, .int .i64 f.count] (blk_later hGF0.out hC) rfl Tryd.underlying35 rfl (by kernel_rfl), Result.andThen_ok, Sem.run_pure]
        exact ⟨hC, Below.refl _ _, rfl⟩
      · refine stepW_of_u ⟨rfl, fun v W ρ hC kc kf ks ki kd => ?_⟩
        have d0 : v 0 = .agg #[.int .i64 f.orig.proto, .int .i64 f.orig.src, .int .i64 f.orig.sport, .int .i64 f.orig.dst, .int .i64 f.orig.dport, .int .i64 f.orig.kind, .int .i64 f.back.proto, .int .i64 f.back.src, .int .i64 f.back.sport, .int .i64 f.back.dst, .int .i64 f.back.dport, .int .i64 f.back.kind, .int .i64 f.state, .bool f.seen, .bool f.sure, .int .i64 f.till, .int .i64 f.count] := by first | exact kd _ (mem0 rfl) rfl | exact kd _ (mem1 rfl) rfl | exact kd _ (mem2 rfl) rfl | exact kd _ (mem3 rfl) rfl | exact kd _ (mem4 rfl) rfl | exact kd _ (mem5 rfl) rfl | exact kd _ (Array.mem_of_getElem? (i := 6) rfl) rfl | exact kd _ (Array.mem_of_getElem? (i := 7) rfl) rfl
        have t7 : ρ (.tmp 7) = .agg #[.int .i64 f.orig.proto, .int .i64 f.orig.src, .int .i64 f.orig.sport, .int .i64 f.orig.dst, .int .i64 f.orig.dport, .int .i64 f.orig.kind, .int .i64 f.back.proto, .int .i64 f.back.src, .int .i64 f.back.sport, .int .i64 f.back.dst, .int .i64 f.back.dport, .int .i64 f.back.kind, .int .i64 f.state, .bool f.seen, .bool f.sure, .int .i64 f.till, .int .i64 f.count] := (ks 0 7 (by decide) rfl).trans d0
        simp [execOp, go_sem, kc, t7, kf]
        exact Calls.mono (HR.out W) (fun e x h => ⟨_, h.1, hC.trans (h.2.mono hC.size), h.2, rfl⟩)
      · refine stepW_of_u ⟨rfl, fun v W ρ hC kc kf ks ki kd => ?_⟩
        have d1 : v 1 = .bool true := by first | exact kd _ (mem0 rfl) rfl | exact kd _ (mem1 rfl) rfl | exact kd _ (mem2 rfl) rfl | exact kd _ (mem3 rfl) rfl | exact kd _ (mem4 rfl) rfl | exact kd _ (mem5 rfl) rfl | exact kd _ (Array.mem_of_getElem? (i := 6) rfl) rfl | exact kd _ (Array.mem_of_getElem? (i := 7) rfl) rfl
        have t8 : ρ (.tmp 8) = .bool true := (ks 1 8 (by decide) rfl).trans d1
        simp [execOp, go_sem, kc, t8]
        exact ⟨hC, Below.refl _ _, rfl⟩
      · refine stepW_of_u ⟨rfl, fun v W ρ hC kc kf ks ki kd => ?_⟩
        have d2 : v 2 = .bool false := by first | exact kd _ (mem0 rfl) rfl | exact kd _ (mem1 rfl) rfl | exact kd _ (mem2 rfl) rfl | exact kd _ (mem3 rfl) rfl | exact kd _ (mem4 rfl) rfl | exact kd _ (mem5 rfl) rfl | exact kd _ (Array.mem_of_getElem? (i := 6) rfl) rfl | exact kd _ (Array.mem_of_getElem? (i := 7) rfl) rfl
        have t9 : ρ (.tmp 9) = .bool false := (ks 2 9 (by decide) rfl).trans d2
        simp [execOp, go_sem, kc, t9]
        exact ⟨hC, Below.refl _ _, rfl⟩
      · intro v W ρ y hC kc kf ks ki ky ku kd
        have dg : v 3 = .bool false := by first | exact kd _ (mem0 rfl) rfl | exact kd _ (mem1 rfl) rfl | exact kd _ (mem2 rfl) rfl | exact kd _ (mem3 rfl) rfl | exact kd _ (mem4 rfl) rfl | exact kd _ (mem5 rfl) rfl | exact kd _ (Array.mem_of_getElem? (i := 6) rfl) rfl | exact kd _ (Array.mem_of_getElem? (i := 7) rfl) rfl
        have hy := ky 3 10 false (by decide) rfl dg
        rw [if_pos (by simp [Region.wanted, hy])]
        have t4 : ρ (.tmp 4) = .pointer (some ⟨w.heap.size + 1, 0, none⟩) := ki 4 (by decide)
        have hg := blk_later hGP0.out hC
        have c0 := blk_cell hg 0
        have c1 := blk_cell hg 1
        have c2 := blk_cell hg 2
        have c3 := blk_cell hg 3
        have c4 := blk_cell hg 4
        have c5 := blk_cell hg 5
        have c6 := blk_cell hg 6
        have c7 := blk_cell hg 7
        have c8 := blk_cell hg 8
        have c9 := blk_cell hg 9
        simp at c0 c1 c2 c3 c4 c5 c6 c7 c8 c9
        simp [execOp, go_sem, kc, t4, c0, c1, c2, c3, c4, c5, c6, c7, c8, c9]
        exact ⟨hC, Below.refl _ _, rfl⟩
      · intro v W ρ y hC kc kf ks ki ky ku kd
        have dg : v 3 = .bool false := by first | exact kd _ (mem0 rfl) rfl | exact kd _ (mem1 rfl) rfl | exact kd _ (mem2 rfl) rfl | exact kd _ (mem3 rfl) rfl | exact kd _ (mem4 rfl) rfl | exact kd _ (mem5 rfl) rfl | exact kd _ (Array.mem_of_getElem? (i := 6) rfl) rfl | exact kd _ (Array.mem_of_getElem? (i := 7) rfl) rfl
        have hy := ky 3 10 false (by decide) rfl dg
        rw [if_pos (by simp [Region.wanted, hy])]
        have d4 : v 4 = .agg #[.int .i64 p.src, .int .i64 p.dst, .int .i64 p.proto, .int .i64 p.a, .int .i64 p.b, .int .i64 p.kind, .int .i64 p.flags, .int .i64 p.seq, .int .i64 p.ack, .string p.body] := by first | exact kd _ (mem0 rfl) rfl | exact kd _ (mem1 rfl) rfl | exact kd _ (mem2 rfl) rfl | exact kd _ (mem3 rfl) rfl | exact kd _ (mem4 rfl) rfl | exact kd _ (mem5 rfl) rfl | exact kd _ (Array.mem_of_getElem? (i := 6) rfl) rfl | exact kd _ (Array.mem_of_getElem? (i := 7) rfl) rfl
        have t11 : ρ (.tmp 11) = .agg #[.int .i64 p.src, .int .i64 p.dst, .int .i64 p.proto, .int .i64 p.a, .int .i64 p.b, .int .i64 p.kind, .int .i64 p.flags, .int .i64 p.seq, .int .i64 p.ack, .string p.body] := (ks 4 11 (by decide) rfl).trans d4
        simp [execOp, go_sem, kc, t11, kf]
        exact Calls.mono (HP.out W) (fun e x h => ⟨_, h.1, hC.trans (h.2.mono hC.size), h.2, rfl⟩)
      · intro v W ρ y hC kc kf ks ki ky ku kd
        have dg : v 3 = .bool false := by first | exact kd _ (mem0 rfl) rfl | exact kd _ (mem1 rfl) rfl | exact kd _ (mem2 rfl) rfl | exact kd _ (mem3 rfl) rfl | exact kd _ (mem4 rfl) rfl | exact kd _ (mem5 rfl) rfl | exact kd _ (Array.mem_of_getElem? (i := 6) rfl) rfl | exact kd _ (Array.mem_of_getElem? (i := 7) rfl) rfl
        have hy := ky 3 10 false (by decide) rfl dg
        rw [if_pos (by simp [Region.wanted, hy])]
        have d5 : v 5 = .bool true := by first | exact kd _ (mem0 rfl) rfl | exact kd _ (mem1 rfl) rfl | exact kd _ (mem2 rfl) rfl | exact kd _ (mem3 rfl) rfl | exact kd _ (mem4 rfl) rfl | exact kd _ (mem5 rfl) rfl | exact kd _ (Array.mem_of_getElem? (i := 6) rfl) rfl | exact kd _ (Array.mem_of_getElem? (i := 7) rfl) rfl
        have t12 : ρ (.tmp 12) = .bool true := (ks 5 12 (by decide) rfl).trans d5
        simp [execOp, go_sem, kc, t12]
        exact ⟨hC, Below.refl _ _, rfl⟩
      · refine stepW_of_u ⟨rfl, fun v W ρ hC kc kf ks ki kd => ?_⟩
        have d3 : v 3 = .bool false := by first | exact kd _ (mem0 rfl) rfl | exact kd _ (mem1 rfl) rfl | exact kd _ (mem2 rfl) rfl | exact kd _ (mem3 rfl) rfl | exact kd _ (mem4 rfl) rfl | exact kd _ (mem5 rfl) rfl | exact kd _ (Array.mem_of_getElem? (i := 6) rfl) rfl | exact kd _ (Array.mem_of_getElem? (i := 7) rfl) rfl
        have t10 : ρ (.tmp 10) = .bool false := (ks 3 10 (by decide) rfl).trans d3
        have d6 : v 6 = .bool false := by first | exact kd _ (mem0 rfl) rfl | exact kd _ (mem1 rfl) rfl | exact kd _ (mem2 rfl) rfl | exact kd _ (mem3 rfl) rfl | exact kd _ (mem4 rfl) rfl | exact kd _ (mem5 rfl) rfl | exact kd _ (Array.mem_of_getElem? (i := 6) rfl) rfl | exact kd _ (Array.mem_of_getElem? (i := 7) rfl) rfl
        have t13 : ρ (.tmp 13) = .bool false := (ks 6 13 (by decide) rfl).trans d6
        simp [execOp, go_sem, kc, t10, t13]
        exact ⟨hC, Below.refl _ _, rfl⟩
      · refine stepW_of_u ⟨rfl, fun v W ρ hC kc kf ks ki kd => ?_⟩
        have d7 : v 7 = .bool false := by first | exact kd _ (mem0 rfl) rfl | exact kd _ (mem1 rfl) rfl | exact kd _ (mem2 rfl) rfl | exact kd _ (mem3 rfl) rfl | exact kd _ (mem4 rfl) rfl | exact kd _ (mem5 rfl) rfl | exact kd _ (Array.mem_of_getElem? (i := 6) rfl) rfl | exact kd _ (Array.mem_of_getElem? (i := 7) rfl) rfl
        have t14 : ρ (.tmp 14) = .bool false := (ks 7 14 (by decide) rfl).trans d7
        simp [execOp, go_sem, kc, t14]
        exact ⟨hC, Below.refl _ _, rfl⟩
      · intro v W ρ y hC kc kf ks ki ky ku kd
        have dg : v 8 = .bool false := by first | exact kd _ (mem0 rfl) rfl | exact kd _ (mem1 rfl) rfl | exact kd _ (mem2 rfl) rfl | exact kd _ (mem3 rfl) rfl | exact kd _ (mem4 rfl) rfl | exact kd _ (mem5 rfl) rfl | exact kd _ (Array.mem_of_getElem? (i := 6) rfl) rfl | exact kd _ (Array.mem_of_getElem? (i := 7) rfl) rfl
        have hy := ky 8 15 false (by decide) rfl dg
        rw [if_pos (by simp [Region.wanted, hy])]
        have t4 : ρ (.tmp 4) = .pointer (some ⟨w.heap.size + 1, 0, none⟩) := ki 4 (by decide)
        have hg := blk_later hGP0.out hC
        have c0 := blk_cell hg 0
        have c1 := blk_cell hg 1
        have c2 := blk_cell hg 2
        have c3 := blk_cell hg 3
        have c4 := blk_cell hg 4
        have c5 := blk_cell hg 5
        have c6 := blk_cell hg 6
        have c7 := blk_cell hg 7
        have c8 := blk_cell hg 8
        have c9 := blk_cell hg 9
        simp at c0 c1 c2 c3 c4 c5 c6 c7 c8 c9
        simp [execOp, go_sem, kc, t4, c0, c1, c2, c3, c4, c5, c6, c7, c8, c9]
        exact ⟨hC, Below.refl _ _, rfl⟩
      · intro v W ρ y hC kc kf ks ki ky ku kd
        have dg : v 8 = .bool false := by first | exact kd _ (mem0 rfl) rfl | exact kd _ (mem1 rfl) rfl | exact kd _ (mem2 rfl) rfl | exact kd _ (mem3 rfl) rfl | exact kd _ (mem4 rfl) rfl | exact kd _ (mem5 rfl) rfl | exact kd _ (Array.mem_of_getElem? (i := 6) rfl) rfl | exact kd _ (Array.mem_of_getElem? (i := 7) rfl) rfl
        have hy := ky 8 15 false (by decide) rfl dg
        rw [if_pos (by simp [Region.wanted, hy])]
        have d9 : v 9 = .agg #[.int .i64 p.src, .int .i64 p.dst, .int .i64 p.proto, .int .i64 p.a, .int .i64 p.b, .int .i64 p.kind, .int .i64 p.flags, .int .i64 p.seq, .int .i64 p.ack, .string p.body] := by first | exact kd _ (mem0 rfl) rfl | exact kd _ (mem1 rfl) rfl | exact kd _ (mem2 rfl) rfl | exact kd _ (mem3 rfl) rfl | exact kd _ (mem4 rfl) rfl | exact kd _ (mem5 rfl) rfl | exact kd _ (Array.mem_of_getElem? (i := 6) rfl) rfl | exact kd _ (Array.mem_of_getElem? (i := 7) rfl) rfl
        have t16 : ρ (.tmp 16) = .agg #[.int .i64 p.src, .int .i64 p.dst, .int .i64 p.proto, .int .i64 p.a, .int .i64 p.b, .int .i64 p.kind, .int .i64 p.flags, .int .i64 p.seq, .int .i64 p.ack, .string p.body] := (ks 9 16 (by decide) rfl).trans d9
        simp [execOp, go_sem, kc, t16, kf]
        exact Calls.mono (HF.out W) (fun e x h => ⟨_, h.1, hC.trans (h.2.mono hC.size), h.2, rfl⟩)
      · intro v W ρ y hC kc kf ks ki ky ku kd
        have dg : v 8 = .bool false := by first | exact kd _ (mem0 rfl) rfl | exact kd _ (mem1 rfl) rfl | exact kd _ (mem2 rfl) rfl | exact kd _ (mem3 rfl) rfl | exact kd _ (mem4 rfl) rfl | exact kd _ (mem5 rfl) rfl | exact kd _ (Array.mem_of_getElem? (i := 6) rfl) rfl | exact kd _ (Array.mem_of_getElem? (i := 7) rfl) rfl
        have hy := ky 8 15 false (by decide) rfl dg
        rw [if_pos (by simp [Region.wanted, hy])]
        have t3 : ρ (.tmp 3) = .pointer (some ⟨w.heap.size, 0, none⟩) := ki 3 (by decide)
        simp only [execOp, t3, Sem.run_bind, loadAt_part (o := 0) [.int .i64 f.orig.proto, .int .i64 f.orig.src, .int .i64 f.orig.sport, .int .i64 f.orig.dst, .int .i64 f.orig.dport, .int .i64 f.orig.kind, .int .i64 f.back.proto, .int .i64 f.back.src, .int .i64 f.back.sport, .int .i64 f.back.dst, .int .i64 f.back.dport, .int .i64 f.back.kind, .int .i64 f.state, .bool f.seen, .bool f.sure, .int .i64 f.till, .int .i64 f.count] (blk_later hGF0.out hC) rfl Tryd.underlying35 rfl (by kernel_rfl), Result.andThen_ok, Sem.run_pure]
        exact ⟨hC, Below.refl _ _, rfl⟩
      · intro v W ρ y hC kc kf ks ki ky ku kd
        have dg : v 8 = .bool false := by first | exact kd _ (mem0 rfl) rfl | exact kd _ (mem1 rfl) rfl | exact kd _ (mem2 rfl) rfl | exact kd _ (mem3 rfl) rfl | exact kd _ (mem4 rfl) rfl | exact kd _ (mem5 rfl) rfl | exact kd _ (Array.mem_of_getElem? (i := 6) rfl) rfl | exact kd _ (Array.mem_of_getElem? (i := 7) rfl) rfl
        have hy := ky 8 15 false (by decide) rfl dg
        rw [if_pos (by simp [Region.wanted, hy])]
        have t2 : ρ (.tmp 2) = .bool b := ki 2 (by decide)
        simp [execOp, go_sem, kc, t2]
        exact ⟨hC, Below.refl _ _, rfl⟩
      · intro v W ρ y hC kc kf ks ki ky ku kd
        have dg : v 8 = .bool false := by first | exact kd _ (mem0 rfl) rfl | exact kd _ (mem1 rfl) rfl | exact kd _ (mem2 rfl) rfl | exact kd _ (mem3 rfl) rfl | exact kd _ (mem4 rfl) rfl | exact kd _ (mem5 rfl) rfl | exact kd _ (Array.mem_of_getElem? (i := 6) rfl) rfl | exact kd _ (Array.mem_of_getElem? (i := 7) rfl) rfl
        have hy := ky 8 15 false (by decide) rfl dg
        rw [if_pos (by simp [Region.wanted, hy])]
        have d11 : v 11 = .agg #[.int .i64 f.orig.proto, .int .i64 f.orig.src, .int .i64 f.orig.sport, .int .i64 f.orig.dst, .int .i64 f.orig.dport, .int .i64 f.orig.kind, .int .i64 f.back.proto, .int .i64 f.back.src, .int .i64 f.back.sport, .int .i64 f.back.dst, .int .i64 f.back.dport, .int .i64 f.back.kind, .int .i64 f.state, .bool f.seen, .bool f.sure, .int .i64 f.till, .int .i64 f.count] := by first | exact kd _ (mem0 rfl) rfl | exact kd _ (mem1 rfl) rfl | exact kd _ (mem2 rfl) rfl | exact kd _ (mem3 rfl) rfl | exact kd _ (mem4 rfl) rfl | exact kd _ (mem5 rfl) rfl | exact kd _ (Array.mem_of_getElem? (i := 6) rfl) rfl | exact kd _ (Array.mem_of_getElem? (i := 7) rfl) rfl
        have t18 : ρ (.tmp 18) = .agg #[.int .i64 f.orig.proto, .int .i64 f.orig.src, .int .i64 f.orig.sport, .int .i64 f.orig.dst, .int .i64 f.orig.dport, .int .i64 f.orig.kind, .int .i64 f.back.proto, .int .i64 f.back.src, .int .i64 f.back.sport, .int .i64 f.back.dst, .int .i64 f.back.dport, .int .i64 f.back.kind, .int .i64 f.state, .bool f.seen, .bool f.sure, .int .i64 f.till, .int .i64 f.count] := (ks 11 18 (by decide) rfl).trans d11
        have d12 : v 12 = .bool b := by first | exact kd _ (mem0 rfl) rfl | exact kd _ (mem1 rfl) rfl | exact kd _ (mem2 rfl) rfl | exact kd _ (mem3 rfl) rfl | exact kd _ (mem4 rfl) rfl | exact kd _ (mem5 rfl) rfl | exact kd _ (Array.mem_of_getElem? (i := 6) rfl) rfl | exact kd _ (Array.mem_of_getElem? (i := 7) rfl) rfl
        have t19 : ρ (.tmp 19) = .bool b := (ks 12 19 (by decide) rfl).trans d12
        simp [execOp, go_sem, kc, t18, t19, kf]
        exact Calls.mono (HD.out W) (fun e x h => ⟨_, h.1, hC.trans (h.2.mono hC.size), h.2, rfl⟩)
      · intro v W ρ y hC kc kf ks ki ky ku kd
        have dg : v 8 = .bool false := by first | exact kd _ (mem0 rfl) rfl | exact kd _ (mem1 rfl) rfl | exact kd _ (mem2 rfl) rfl | exact kd _ (mem3 rfl) rfl | exact kd _ (mem4 rfl) rfl | exact kd _ (mem5 rfl) rfl | exact kd _ (Array.mem_of_getElem? (i := 6) rfl) rfl | exact kd _ (Array.mem_of_getElem? (i := 7) rfl) rfl
        have hy := ky 8 15 false (by decide) rfl dg
        rw [if_pos (by simp [Region.wanted, hy])]
        have d10 : v 10 = .agg #[.int .i64 (ofP p).proto, .int .i64 (ofP p).src, .int .i64 (ofP p).sport, .int .i64 (ofP p).dst, .int .i64 (ofP p).dport, .int .i64 (ofP p).kind] := by first | exact kd _ (mem0 rfl) rfl | exact kd _ (mem1 rfl) rfl | exact kd _ (mem2 rfl) rfl | exact kd _ (mem3 rfl) rfl | exact kd _ (mem4 rfl) rfl | exact kd _ (mem5 rfl) rfl | exact kd _ (Array.mem_of_getElem? (i := 6) rfl) rfl | exact kd _ (Array.mem_of_getElem? (i := 7) rfl) rfl
        have t17 : ρ (.tmp 17) = .agg #[.int .i64 (ofP p).proto, .int .i64 (ofP p).src, .int .i64 (ofP p).sport, .int .i64 (ofP p).dst, .int .i64 (ofP p).dport, .int .i64 (ofP p).kind] := (ks 10 17 (by decide) rfl).trans d10
        have d13 : v 13 = .agg #[.int .i64 (sideF f b).proto, .int .i64 (sideF f b).src, .int .i64 (sideF f b).sport, .int .i64 (sideF f b).dst, .int .i64 (sideF f b).dport, .int .i64 (sideF f b).kind] := by first | exact kd _ (mem0 rfl) rfl | exact kd _ (mem1 rfl) rfl | exact kd _ (mem2 rfl) rfl | exact kd _ (mem3 rfl) rfl | exact kd _ (mem4 rfl) rfl | exact kd _ (mem5 rfl) rfl | exact kd _ (Array.mem_of_getElem? (i := 6) rfl) rfl | exact kd _ (Array.mem_of_getElem? (i := 7) rfl) rfl
        have t20 : ρ (.tmp 20) = .agg #[.int .i64 (sideF f b).proto, .int .i64 (sideF f b).src, .int .i64 (sideF f b).sport, .int .i64 (sideF f b).dst, .int .i64 (sideF f b).dport, .int .i64 (sideF f b).kind] := (ks 13 20 (by decide) rfl).trans d13
        have eg : Tryd.prog.eqGuardType Tryd.prog.depth 33 = false := by kernel_rfl
        have e1 := HQ.out W
        simp only [execOp, t17, t20, Sem.run_bind, run_eqGuard_agg, eg, e1, Result.andThen_ok, Sem.run_pure]
        exact ⟨hC, Below.refl _ _, rfl⟩
      · refine stepW_of_u ⟨rfl, fun v W ρ hC kc kf ks ki kd => ?_⟩
        have d8 : v 8 = .bool false := by first | exact kd _ (mem0 rfl) rfl | exact kd _ (mem1 rfl) rfl | exact kd _ (mem2 rfl) rfl | exact kd _ (mem3 rfl) rfl | exact kd _ (mem4 rfl) rfl | exact kd _ (mem5 rfl) rfl | exact kd _ (Array.mem_of_getElem? (i := 6) rfl) rfl | exact kd _ (Array.mem_of_getElem? (i := 7) rfl) rfl
        have t15 : ρ (.tmp 15) = .bool false := (ks 8 15 (by decide) rfl).trans d8
        have d14 : v 14 = .bool true := by first | exact kd _ (mem0 rfl) rfl | exact kd _ (mem1 rfl) rfl | exact kd _ (mem2 rfl) rfl | exact kd _ (mem3 rfl) rfl | exact kd _ (mem4 rfl) rfl | exact kd _ (mem5 rfl) rfl | exact kd _ (Array.mem_of_getElem? (i := 6) rfl) rfl | exact kd _ (Array.mem_of_getElem? (i := 7) rfl) rfl
        have t21 : ρ (.tmp 21) = .bool true := (ks 14 21 (by decide) rfl).trans d14
        simp [execOp, go_sem, kc, t15, t21]
        exact ⟨hC, Below.refl _ _, rfl⟩
    intro vA_5 w1 hb1 hall
    have hvA_5 : vA_5 15 = .bool true := hall 15 (by decide)
    simp [upto, Act.put]
    rw [hvA_5]
    clear hall hvA_5
    have hGF1 := hidS (blk_later hGF0.out hb1)
    have hGP1 := hidS (blk_later hGP0.out hb1)
    have hGR1 := hidS (blk_later hGR0.out hb1)
    have hL1 := hidS (hL0.out.trans (hb1.mono hL0.out.size))
    clear hb1 hL0 hGF0 hGP0 hGR0
    have E0 : Hid (isOfF f p b = false) := by show _ = _; rw [EB.out, h0, h1, h2]; rfl
    have EA : Hid (outP f p b = zeroPk) := hidS (if_neg (by rw [E0.out]; simp))
    have EC : Hid (outC f p b = 1) := hidS (if_neg (by rw [E0.out]; simp))
    go_upto_region 2 with fail
    refine plain_into 1 _ [.is (.agg #[.int .i64 0, .int .i64 0, .int .i64 0, .int .i64 0, .int .i64 0, .int .i64 0, .int .i64 0, .int .i64 0, .int .i64 0, .string ⟨#[]⟩, .int .i64 1])] 0 6 23 31 31 (w.heap.size + 2) #[.int .i64 0, .int .i64 0, .int .i64 0, .int .i64 0, .int .i64 0, .int .i64 0, .int .i64 0, .int .i64 0, .int .i64 0, .string ⟨#[]⟩, .int .i64 0] #[.int .i64 0, .int .i64 0, .int .i64 0, .int .i64 0, .int .i64 0, .int .i64 0, .int .i64 0, .int .i64 0, .int .i64 0, .string ⟨#[]⟩, .int .i64 1] rfl rfl rfl (by kernel_rfl) (by kernel_rfl) (by kernel_rfl) rfl rfl (by decide) (by kernel_rfl) (by kernel_rfl) (by decide) hGR1.out (by kernel_rfl) (by kernel_rfl) (by first | kernel_rfl | simp [Value.oneCell']) (by kernel_rfl) ?stepsZ_6 ?finZ_6
    case stepsZ_6 =>
      refine ⟨?_, trivial⟩
      · refine ⟨rfl, fun v W ρ hC kc kf ks ki kd => ?_⟩
        simp [execOp, go_sem, kc, ]
        exact ⟨hC, Below.refl _ _, rfl⟩
    intro vZ_6 WZ_6 hBZ_6 hgZ_6 hall
    simp [upto, Act.put]
    clear hall
    have hEZ_6 := hidS (hL1.out.trans (hBZ_6 w.heap.size (by omega)))
    have hcZ_6 := loadVar_blk (P := Tryd.prog) hgZ_6 Tryd.underlying31 rfl (by kernel_rfl)
    clear hBZ_6 hgZ_6 hL1 hGF1 hGP1 hGR1
    go_wp2_with fail
    exact bodyPost_ret (v := .agg #[.int .i64 0, .int .i64 0, .int .i64 0, .int .i64 0, .int .i64 0, .int .i64 0, .int .i64 0, .int .i64 0, .int .i64 0, .string ⟨#[]⟩, .int .i64 1]) (results_cell Tryd.results6 rfl hcZ_6) rfl ⟨by rw [EA.out, EC.out]; rfl, hEZ_6.out⟩
  rw [h2] at HQ
  simp only [Bool.not_true] at HQ
  refine grow_guarded 16 [.is (.agg #[.int .i64 f.orig.proto, .int .i64 f.orig.src, .int .i64 f.orig.sport, .int .i64 f.orig.dst, .int .i64 f.orig.dport, .int .i64 f.orig.kind, .int .i64 f.back.proto, .int .i64 f.back.src, .int .i64 f.back.sport, .int .i64 f.back.dst, .int .i64 f.back.dport, .int .i64 f.back.kind, .int .i64 f.state, .bool f.seen, .bool f.sure, .int .i64 f.till, .int .i64 f.count]), .is (.bool true), .is (.bool false), .is (.bool false), .is (.agg #[.int .i64 p.src, .int .i64 p.dst, .int .i64 p.proto, .int .i64 p.a, .int .i64 p.b, .int .i64 p.kind, .int .i64 p.flags, .int .i64 p.seq, .int .i64 p.ack, .string p.body]), .is (.bool true), .is (.bool false), .is (.bool false), .is (.bool false), .is (.agg #[.int .i64 p.src, .int .i64 p.dst, .int .i64 p.proto, .int .i64 p.a, .int .i64 p.b, .int .i64 p.kind, .int .i64 p.flags, .int .i64 p.seq, .int .i64 p.ack, .string p.body]), .is (.agg #[.int .i64 (ofP p).proto, .int .i64 (ofP p).src, .int .i64 (ofP p).sport, .int .i64 (ofP p).dst, .int .i64 (ofP p).dport, .int .i64 (ofP p).kind]), .is (.agg #[.int .i64 f.orig.proto, .int .i64 f.orig.src, .int .i64 f.orig.sport, .int .i64 f.orig.dst, .int .i64 f.orig.dport, .int .i64 f.orig.kind, .int .i64 f.back.proto, .int .i64 f.back.src, .int .i64 f.back.sport, .int .i64 f.back.dst, .int .i64 f.back.dport, .int .i64 f.back.kind, .int .i64 f.state, .bool f.seen, .bool f.sure, .int .i64 f.till, .int .i64 f.count]), .is (.bool b), .is (.agg #[.int .i64 (sideF f b).proto, .int .i64 (sideF f b).src, .int .i64 (sideF f b).sport, .int .i64 (sideF f b).dst, .int .i64 (sideF f b).dport, .int .i64 (sideF f b).kind]), .is (.bool false), .is (.bool false)] rfl (by kernel_rfl) (by kernel_rfl) ?stepsA_7 ?finA_7
  case stepsA_7 =>
    refine ⟨?_, ?_, ?_, ?_, ?_, ?_, ?_, ?_, ?_, ?_, ?_, ?_, ?_, ?_, ?_, ?_, trivial⟩
    · refine stepW_of_u ⟨rfl, fun v W ρ hC kc kf ks ki kd => ?_⟩
      have t3 : ρ (.tmp 3) = .pointer (some ⟨w.heap.size, 0, none⟩) := ki 3 (by decide)
      simp only [execOp, t3, Sem.run_bind, loadAt_part (o := 0) [.int .i64 f.orig.proto, .int .i64 f.orig.src, .int .i64 f.orig.sport, .int .i64 f.orig.dst, .int .i64 f.orig.dport, .int .i64 f.orig.kind, .int .i64 f.back.proto, .int .i64 f.back.src, .int .i64 f.back.sport, .int .i64 f.back.dst, .int .i64 f.back.dport, .int .i64 f.back.kind, .int .i64 f.state, .bool f.seen, .bool f.sure, .int .i64 f.till, .int .i64 f.count] (blk_later hGF0.out hC) rfl Tryd.underlying35 rfl (by kernel_rfl), Result.andThen_ok, Sem.run_pure]
      exact ⟨hC, Below.refl _ _, rfl⟩
    · refine stepW_of_u ⟨rfl, fun v W ρ hC kc kf ks ki kd => ?_⟩
      have d0 : v 0 = .agg #[.int .i64 f.orig.proto, .int .i64 f.orig.src, .int .i64 f.orig.sport, .int .i64 f.orig.dst, .int .i64 f.orig.dport, .int .i64 f.orig.kind, .int .i64 f.back.proto, .int .i64 f.back.src, .int .i64 f.back.sport, .int .i64 f.back.dst, .int .i64 f.back.dport, .int .i64 f.back.kind, .int .i64 f.state, .bool f.seen, .bool f.sure, .int .i64 f.till, .int .i64 f.count] := by first | exact kd _ (mem0 rfl) rfl | exact kd _ (mem1 rfl) rfl | exact kd _ (mem2 rfl) rfl | exact kd _ (mem3 rfl) rfl | exact kd _ (mem4 rfl) rfl | exact kd _ (mem5 rfl) rfl | exact kd _ (Array.mem_of_getElem? (i := 6) rfl) rfl | exact kd _ (Array.mem_of_getElem? (i := 7) rfl) rfl
      have t7 : ρ (.tmp 7) = .agg #[.int .i64 f.orig.proto, .int .i64 f.orig.src, .int .i64 f.orig.sport, .int .i64 f.orig.dst, .int .i64 f.orig.dport, .int .i64 f.orig.kind, .int .i64 f.back.proto, .int .i64 f.back.src, .int .i64 f.back.sport, .int .i64 f.back.dst, .int .i64 f.back.dport, .int .i64 f.back.kind, .int .i64 f.state, .bool f.seen, .bool f.sure, .int .i64 f.till, .int .i64 f.count] := (ks 0 7 (by decide) rfl).trans d0
      simp [execOp, go_sem, kc, t7, kf]
      exact Calls.mono (HR.out W) (fun e x h => ⟨_, h.1, hC.trans (h.2.mono hC.size), h.2, rfl⟩)
    · refine stepW_of_u ⟨rfl, fun v W ρ hC kc kf ks ki kd => ?_⟩
      have d1 : v 1 = .bool true := by first | exact kd _ (mem0 rfl) rfl | exact kd _ (mem1 rfl) rfl | exact kd _ (mem2 rfl) rfl | exact kd _ (mem3 rfl) rfl | exact kd _ (mem4 rfl) rfl | exact kd _ (mem5 rfl) rfl | exact kd _ (Array.mem_of_getElem? (i := 6) rfl) rfl | exact kd _ (Array.mem_of_getElem? (i := 7) rfl) rfl
      have t8 : ρ (.tmp 8) = .bool true := (ks 1 8 (by decide) rfl).trans d1
      simp [execOp, go_sem, kc, t8]
      exact ⟨hC, Below.refl _ _, rfl⟩
    · refine stepW_of_u ⟨rfl, fun v W ρ hC kc kf ks ki kd => ?_⟩
      have d2 : v 2 = .bool false := by first | exact kd _ (mem0 rfl) rfl | exact kd _ (mem1 rfl) rfl | exact kd _ (mem2 rfl) rfl | exact kd _ (mem3 rfl) rfl | exact kd _ (mem4 rfl) rfl | exact kd _ (mem5 rfl) rfl | exact kd _ (Array.mem_of_getElem? (i := 6) rfl) rfl | exact kd _ (Array.mem_of_getElem? (i := 7) rfl) rfl
      have t9 : ρ (.tmp 9) = .bool false := (ks 2 9 (by decide) rfl).trans d2
      simp [execOp, go_sem, kc, t9]
      exact ⟨hC, Below.refl _ _, rfl⟩
    · intro v W ρ y hC kc kf ks ki ky ku kd
      have dg : v 3 = .bool false := by first | exact kd _ (mem0 rfl) rfl | exact kd _ (mem1 rfl) rfl | exact kd _ (mem2 rfl) rfl | exact kd _ (mem3 rfl) rfl | exact kd _ (mem4 rfl) rfl | exact kd _ (mem5 rfl) rfl | exact kd _ (Array.mem_of_getElem? (i := 6) rfl) rfl | exact kd _ (Array.mem_of_getElem? (i := 7) rfl) rfl
      have hy := ky 3 10 false (by decide) rfl dg
      rw [if_pos (by simp [Region.wanted, hy])]
      have t4 : ρ (.tmp 4) = .pointer (some ⟨w.heap.size + 1, 0, none⟩) := ki 4 (by decide)
      have hg := blk_later hGP0.out hC
      have c0 := blk_cell hg 0
      have c1 := blk_cell hg 1
      have c2 := blk_cell hg 2
      have c3 := blk_cell hg 3
      have c4 := blk_cell hg 4
      have c5 := blk_cell hg 5
      have c6 := blk_cell hg 6
      have c7 := blk_cell hg 7
      have c8 := blk_cell hg 8
      have c9 := blk_cell hg 9
      simp at c0 c1 c2 c3 c4 c5 c6 c7 c8 c9
      simp [execOp, go_sem, kc, t4, c0, c1, c2, c3, c4, c5, c6, c7, c8, c9]
      exact ⟨hC, Below.refl _ _, rfl⟩
    · intro v W ρ y hC kc kf ks ki ky ku kd
      have dg : v 3 = .bool false := by first | exact kd _ (mem0 rfl) rfl | exact kd _ (mem1 rfl) rfl | exact kd _ (mem2 rfl) rfl | exact kd _ (mem3 rfl) rfl | exact kd _ (mem4 rfl) rfl | exact kd _ (mem5 rfl) rfl | exact kd _ (Array.mem_of_getElem? (i := 6) rfl) rfl | exact kd _ (Array.mem_of_getElem? (i := 7) rfl) rfl
      have hy := ky 3 10 false (by decide) rfl dg
      rw [if_pos (by simp [Region.wanted, hy])]
      have d4 : v 4 = .agg #[.int .i64 p.src, .int .i64 p.dst, .int .i64 p.proto, .int .i64 p.a, .int .i64 p.b, .int .i64 p.kind, .int .i64 p.flags, .int .i64 p.seq, .int .i64 p.ack, .string p.body] := by first | exact kd _ (mem0 rfl) rfl | exact kd _ (mem1 rfl) rfl | exact kd _ (mem2 rfl) rfl | exact kd _ (mem3 rfl) rfl | exact kd _ (mem4 rfl) rfl | exact kd _ (mem5 rfl) rfl | exact kd _ (Array.mem_of_getElem? (i := 6) rfl) rfl | exact kd _ (Array.mem_of_getElem? (i := 7) rfl) rfl
      have t11 : ρ (.tmp 11) = .agg #[.int .i64 p.src, .int .i64 p.dst, .int .i64 p.proto, .int .i64 p.a, .int .i64 p.b, .int .i64 p.kind, .int .i64 p.flags, .int .i64 p.seq, .int .i64 p.ack, .string p.body] := (ks 4 11 (by decide) rfl).trans d4
      simp [execOp, go_sem, kc, t11, kf]
      exact Calls.mono (HP.out W) (fun e x h => ⟨_, h.1, hC.trans (h.2.mono hC.size), h.2, rfl⟩)
    · intro v W ρ y hC kc kf ks ki ky ku kd
      have dg : v 3 = .bool false := by first | exact kd _ (mem0 rfl) rfl | exact kd _ (mem1 rfl) rfl | exact kd _ (mem2 rfl) rfl | exact kd _ (mem3 rfl) rfl | exact kd _ (mem4 rfl) rfl | exact kd _ (mem5 rfl) rfl | exact kd _ (Array.mem_of_getElem? (i := 6) rfl) rfl | exact kd _ (Array.mem_of_getElem? (i := 7) rfl) rfl
      have hy := ky 3 10 false (by decide) rfl dg
      rw [if_pos (by simp [Region.wanted, hy])]
      have d5 : v 5 = .bool true := by first | exact kd _ (mem0 rfl) rfl | exact kd _ (mem1 rfl) rfl | exact kd _ (mem2 rfl) rfl | exact kd _ (mem3 rfl) rfl | exact kd _ (mem4 rfl) rfl | exact kd _ (mem5 rfl) rfl | exact kd _ (Array.mem_of_getElem? (i := 6) rfl) rfl | exact kd _ (Array.mem_of_getElem? (i := 7) rfl) rfl
      have t12 : ρ (.tmp 12) = .bool true := (ks 5 12 (by decide) rfl).trans d5
      simp [execOp, go_sem, kc, t12]
      exact ⟨hC, Below.refl _ _, rfl⟩
    · refine stepW_of_u ⟨rfl, fun v W ρ hC kc kf ks ki kd => ?_⟩
      have d3 : v 3 = .bool false := by first | exact kd _ (mem0 rfl) rfl | exact kd _ (mem1 rfl) rfl | exact kd _ (mem2 rfl) rfl | exact kd _ (mem3 rfl) rfl | exact kd _ (mem4 rfl) rfl | exact kd _ (mem5 rfl) rfl | exact kd _ (Array.mem_of_getElem? (i := 6) rfl) rfl | exact kd _ (Array.mem_of_getElem? (i := 7) rfl) rfl
      have t10 : ρ (.tmp 10) = .bool false := (ks 3 10 (by decide) rfl).trans d3
      have d6 : v 6 = .bool false := by first | exact kd _ (mem0 rfl) rfl | exact kd _ (mem1 rfl) rfl | exact kd _ (mem2 rfl) rfl | exact kd _ (mem3 rfl) rfl | exact kd _ (mem4 rfl) rfl | exact kd _ (mem5 rfl) rfl | exact kd _ (Array.mem_of_getElem? (i := 6) rfl) rfl | exact kd _ (Array.mem_of_getElem? (i := 7) rfl) rfl
      have t13 : ρ (.tmp 13) = .bool false := (ks 6 13 (by decide) rfl).trans d6
      simp [execOp, go_sem, kc, t10, t13]
      exact ⟨hC, Below.refl _ _, rfl⟩
    · refine stepW_of_u ⟨rfl, fun v W ρ hC kc kf ks ki kd => ?_⟩
      have d7 : v 7 = .bool false := by first | exact kd _ (mem0 rfl) rfl | exact kd _ (mem1 rfl) rfl | exact kd _ (mem2 rfl) rfl | exact kd _ (mem3 rfl) rfl | exact kd _ (mem4 rfl) rfl | exact kd _ (mem5 rfl) rfl | exact kd _ (Array.mem_of_getElem? (i := 6) rfl) rfl | exact kd _ (Array.mem_of_getElem? (i := 7) rfl) rfl
      have t14 : ρ (.tmp 14) = .bool false := (ks 7 14 (by decide) rfl).trans d7
      simp [execOp, go_sem, kc, t14]
      exact ⟨hC, Below.refl _ _, rfl⟩
    · intro v W ρ y hC kc kf ks ki ky ku kd
      have dg : v 8 = .bool false := by first | exact kd _ (mem0 rfl) rfl | exact kd _ (mem1 rfl) rfl | exact kd _ (mem2 rfl) rfl | exact kd _ (mem3 rfl) rfl | exact kd _ (mem4 rfl) rfl | exact kd _ (mem5 rfl) rfl | exact kd _ (Array.mem_of_getElem? (i := 6) rfl) rfl | exact kd _ (Array.mem_of_getElem? (i := 7) rfl) rfl
      have hy := ky 8 15 false (by decide) rfl dg
      rw [if_pos (by simp [Region.wanted, hy])]
      have t4 : ρ (.tmp 4) = .pointer (some ⟨w.heap.size + 1, 0, none⟩) := ki 4 (by decide)
      have hg := blk_later hGP0.out hC
      have c0 := blk_cell hg 0
      have c1 := blk_cell hg 1
      have c2 := blk_cell hg 2
      have c3 := blk_cell hg 3
      have c4 := blk_cell hg 4
      have c5 := blk_cell hg 5
      have c6 := blk_cell hg 6
      have c7 := blk_cell hg 7
      have c8 := blk_cell hg 8
      have c9 := blk_cell hg 9
      simp at c0 c1 c2 c3 c4 c5 c6 c7 c8 c9
      simp [execOp, go_sem, kc, t4, c0, c1, c2, c3, c4, c5, c6, c7, c8, c9]
      exact ⟨hC, Below.refl _ _, rfl⟩
    · intro v W ρ y hC kc kf ks ki ky ku kd
      have dg : v 8 = .bool false := by first | exact kd _ (mem0 rfl) rfl | exact kd _ (mem1 rfl) rfl | exact kd _ (mem2 rfl) rfl | exact kd _ (mem3 rfl) rfl | exact kd _ (mem4 rfl) rfl | exact kd _ (mem5 rfl) rfl | exact kd _ (Array.mem_of_getElem? (i := 6) rfl) rfl | exact kd _ (Array.mem_of_getElem? (i := 7) rfl) rfl
      have hy := ky 8 15 false (by decide) rfl dg
      rw [if_pos (by simp [Region.wanted, hy])]
      have d9 : v 9 = .agg #[.int .i64 p.src, .int .i64 p.dst, .int .i64 p.proto, .int .i64 p.a, .int .i64 p.b, .int .i64 p.kind, .int .i64 p.flags, .int .i64 p.seq, .int .i64 p.ack, .string p.body] := by first | exact kd _ (mem0 rfl) rfl | exact kd _ (mem1 rfl) rfl | exact kd _ (mem2 rfl) rfl | exact kd _ (mem3 rfl) rfl | exact kd _ (mem4 rfl) rfl | exact kd _ (mem5 rfl) rfl | exact kd _ (Array.mem_of_getElem? (i := 6) rfl) rfl | exact kd _ (Array.mem_of_getElem? (i := 7) rfl) rfl
      have t16 : ρ (.tmp 16) = .agg #[.int .i64 p.src, .int .i64 p.dst, .int .i64 p.proto, .int .i64 p.a, .int .i64 p.b, .int .i64 p.kind, .int .i64 p.flags, .int .i64 p.seq, .int .i64 p.ack, .string p.body] := (ks 9 16 (by decide) rfl).trans d9
      simp [execOp, go_sem, kc, t16, kf]
      exact Calls.mono (HF.out W) (fun e x h => ⟨_, h.1, hC.trans (h.2.mono hC.size), h.2, rfl⟩)
    · intro v W ρ y hC kc kf ks ki ky ku kd
      have dg : v 8 = .bool false := by first | exact kd _ (mem0 rfl) rfl | exact kd _ (mem1 rfl) rfl | exact kd _ (mem2 rfl) rfl | exact kd _ (mem3 rfl) rfl | exact kd _ (mem4 rfl) rfl | exact kd _ (mem5 rfl) rfl | exact kd _ (Array.mem_of_getElem? (i := 6) rfl) rfl | exact kd _ (Array.mem_of_getElem? (i := 7) rfl) rfl
      have hy := ky 8 15 false (by decide) rfl dg
      rw [if_pos (by simp [Region.wanted, hy])]
      have t3 : ρ (.tmp 3) = .pointer (some ⟨w.heap.size, 0, none⟩) := ki 3 (by decide)
      simp only [execOp, t3, Sem.run_bind, loadAt_part (o := 0) [.int .i64 f.orig.proto, .int .i64 f.orig.src, .int .i64 f.orig.sport, .int .i64 f.orig.dst, .int .i64 f.orig.dport, .int .i64 f.orig.kind, .int .i64 f.back.proto, .int .i64 f.back.src, .int .i64 f.back.sport, .int .i64 f.back.dst, .int .i64 f.back.dport, .int .i64 f.back.kind, .int .i64 f.state, .bool f.seen, .bool f.sure, .int .i64 f.till, .int .i64 f.count] (blk_later hGF0.out hC) rfl Tryd.underlying35 rfl (by kernel_rfl), Result.andThen_ok, Sem.run_pure]
      exact ⟨hC, Below.refl _ _, rfl⟩
    · intro v W ρ y hC kc kf ks ki ky ku kd
      have dg : v 8 = .bool false := by first | exact kd _ (mem0 rfl) rfl | exact kd _ (mem1 rfl) rfl | exact kd _ (mem2 rfl) rfl | exact kd _ (mem3 rfl) rfl | exact kd _ (mem4 rfl) rfl | exact kd _ (mem5 rfl) rfl | exact kd _ (Array.mem_of_getElem? (i := 6) rfl) rfl | exact kd _ (Array.mem_of_getElem? (i := 7) rfl) rfl
      have hy := ky 8 15 false (by decide) rfl dg
      rw [if_pos (by simp [Region.wanted, hy])]
      have t2 : ρ (.tmp 2) = .bool b := ki 2 (by decide)
      simp [execOp, go_sem, kc, t2]
      exact ⟨hC, Below.refl _ _, rfl⟩
    · intro v W ρ y hC kc kf ks ki ky ku kd
      have dg : v 8 = .bool false := by first | exact kd _ (mem0 rfl) rfl | exact kd _ (mem1 rfl) rfl | exact kd _ (mem2 rfl) rfl | exact kd _ (mem3 rfl) rfl | exact kd _ (mem4 rfl) rfl | exact kd _ (mem5 rfl) rfl | exact kd _ (Array.mem_of_getElem? (i := 6) rfl) rfl | exact kd _ (Array.mem_of_getElem? (i := 7) rfl) rfl
      have hy := ky 8 15 false (by decide) rfl dg
      rw [if_pos (by simp [Region.wanted, hy])]
      have d11 : v 11 = .agg #[.int .i64 f.orig.proto, .int .i64 f.orig.src, .int .i64 f.orig.sport, .int .i64 f.orig.dst, .int .i64 f.orig.dport, .int .i64 f.orig.kind, .int .i64 f.back.proto, .int .i64 f.back.src, .int .i64 f.back.sport, .int .i64 f.back.dst, .int .i64 f.back.dport, .int .i64 f.back.kind, .int .i64 f.state, .bool f.seen, .bool f.sure, .int .i64 f.till, .int .i64 f.count] := by first | exact kd _ (mem0 rfl) rfl | exact kd _ (mem1 rfl) rfl | exact kd _ (mem2 rfl) rfl | exact kd _ (mem3 rfl) rfl | exact kd _ (mem4 rfl) rfl | exact kd _ (mem5 rfl) rfl | exact kd _ (Array.mem_of_getElem? (i := 6) rfl) rfl | exact kd _ (Array.mem_of_getElem? (i := 7) rfl) rfl
      have t18 : ρ (.tmp 18) = .agg #[.int .i64 f.orig.proto, .int .i64 f.orig.src, .int .i64 f.orig.sport, .int .i64 f.orig.dst, .int .i64 f.orig.dport, .int .i64 f.orig.kind, .int .i64 f.back.proto, .int .i64 f.back.src, .int .i64 f.back.sport, .int .i64 f.back.dst, .int .i64 f.back.dport, .int .i64 f.back.kind, .int .i64 f.state, .bool f.seen, .bool f.sure, .int .i64 f.till, .int .i64 f.count] := (ks 11 18 (by decide) rfl).trans d11
      have d12 : v 12 = .bool b := by first | exact kd _ (mem0 rfl) rfl | exact kd _ (mem1 rfl) rfl | exact kd _ (mem2 rfl) rfl | exact kd _ (mem3 rfl) rfl | exact kd _ (mem4 rfl) rfl | exact kd _ (mem5 rfl) rfl | exact kd _ (Array.mem_of_getElem? (i := 6) rfl) rfl | exact kd _ (Array.mem_of_getElem? (i := 7) rfl) rfl
      have t19 : ρ (.tmp 19) = .bool b := (ks 12 19 (by decide) rfl).trans d12
      simp [execOp, go_sem, kc, t18, t19, kf]
      exact Calls.mono (HD.out W) (fun e x h => ⟨_, h.1, hC.trans (h.2.mono hC.size), h.2, rfl⟩)
    · intro v W ρ y hC kc kf ks ki ky ku kd
      have dg : v 8 = .bool false := by first | exact kd _ (mem0 rfl) rfl | exact kd _ (mem1 rfl) rfl | exact kd _ (mem2 rfl) rfl | exact kd _ (mem3 rfl) rfl | exact kd _ (mem4 rfl) rfl | exact kd _ (mem5 rfl) rfl | exact kd _ (Array.mem_of_getElem? (i := 6) rfl) rfl | exact kd _ (Array.mem_of_getElem? (i := 7) rfl) rfl
      have hy := ky 8 15 false (by decide) rfl dg
      rw [if_pos (by simp [Region.wanted, hy])]
      have d10 : v 10 = .agg #[.int .i64 (ofP p).proto, .int .i64 (ofP p).src, .int .i64 (ofP p).sport, .int .i64 (ofP p).dst, .int .i64 (ofP p).dport, .int .i64 (ofP p).kind] := by first | exact kd _ (mem0 rfl) rfl | exact kd _ (mem1 rfl) rfl | exact kd _ (mem2 rfl) rfl | exact kd _ (mem3 rfl) rfl | exact kd _ (mem4 rfl) rfl | exact kd _ (mem5 rfl) rfl | exact kd _ (Array.mem_of_getElem? (i := 6) rfl) rfl | exact kd _ (Array.mem_of_getElem? (i := 7) rfl) rfl
      have t17 : ρ (.tmp 17) = .agg #[.int .i64 (ofP p).proto, .int .i64 (ofP p).src, .int .i64 (ofP p).sport, .int .i64 (ofP p).dst, .int .i64 (ofP p).dport, .int .i64 (ofP p).kind] := (ks 10 17 (by decide) rfl).trans d10
      have d13 : v 13 = .agg #[.int .i64 (sideF f b).proto, .int .i64 (sideF f b).src, .int .i64 (sideF f b).sport, .int .i64 (sideF f b).dst, .int .i64 (sideF f b).dport, .int .i64 (sideF f b).kind] := by first | exact kd _ (mem0 rfl) rfl | exact kd _ (mem1 rfl) rfl | exact kd _ (mem2 rfl) rfl | exact kd _ (mem3 rfl) rfl | exact kd _ (mem4 rfl) rfl | exact kd _ (mem5 rfl) rfl | exact kd _ (Array.mem_of_getElem? (i := 6) rfl) rfl | exact kd _ (Array.mem_of_getElem? (i := 7) rfl) rfl
      have t20 : ρ (.tmp 20) = .agg #[.int .i64 (sideF f b).proto, .int .i64 (sideF f b).src, .int .i64 (sideF f b).sport, .int .i64 (sideF f b).dst, .int .i64 (sideF f b).dport, .int .i64 (sideF f b).kind] := (ks 13 20 (by decide) rfl).trans d13
      have eg : Tryd.prog.eqGuardType Tryd.prog.depth 33 = false := by kernel_rfl
      have e1 := HQ.out W
      simp only [execOp, t17, t20, Sem.run_bind, run_eqGuard_agg, eg, e1, Result.andThen_ok, Sem.run_pure]
      exact ⟨hC, Below.refl _ _, rfl⟩
    · refine stepW_of_u ⟨rfl, fun v W ρ hC kc kf ks ki kd => ?_⟩
      have d8 : v 8 = .bool false := by first | exact kd _ (mem0 rfl) rfl | exact kd _ (mem1 rfl) rfl | exact kd _ (mem2 rfl) rfl | exact kd _ (mem3 rfl) rfl | exact kd _ (mem4 rfl) rfl | exact kd _ (mem5 rfl) rfl | exact kd _ (Array.mem_of_getElem? (i := 6) rfl) rfl | exact kd _ (Array.mem_of_getElem? (i := 7) rfl) rfl
      have t15 : ρ (.tmp 15) = .bool false := (ks 8 15 (by decide) rfl).trans d8
      have d14 : v 14 = .bool false := by first | exact kd _ (mem0 rfl) rfl | exact kd _ (mem1 rfl) rfl | exact kd _ (mem2 rfl) rfl | exact kd _ (mem3 rfl) rfl | exact kd _ (mem4 rfl) rfl | exact kd _ (mem5 rfl) rfl | exact kd _ (Array.mem_of_getElem? (i := 6) rfl) rfl | exact kd _ (Array.mem_of_getElem? (i := 7) rfl) rfl
      have t21 : ρ (.tmp 21) = .bool false := (ks 14 21 (by decide) rfl).trans d14
      simp [execOp, go_sem, kc, t15, t21]
      exact ⟨hC, Below.refl _ _, rfl⟩
  intro vA_7 w1 hb1 hall
  have hvA_7 : vA_7 15 = .bool false := hall 15 (by decide)
  simp [upto, Act.put]
  rw [hvA_7]
  clear hall hvA_7
  have hGF1 := hidS (blk_later hGF0.out hb1)
  have hGP1 := hidS (blk_later hGP0.out hb1)
  have hGR1 := hidS (blk_later hGR0.out hb1)
  have hL1 := hidS (hL0.out.trans (hb1.mono hL0.out.size))
  clear hb1 hL0 hGF0 hGP0 hGR0
  have E0 : Hid (isOfF f p b = true) := by show _ = _; rw [EB.out, h0, h1, h2]; rfl
  have EA : Hid (outP f p b = withT p (invT (sideF f (!b)))) := hidS (if_pos E0.out)
  have EC : Hid (outC f p b = 0) := hidS (if_pos E0.out)
  have HI2 := hidS (HI.out (HS.out h0))
  go_upto_region 3 with fail
  refine grow_into 8 _ [.is (.agg #[.int .i64 p.src, .int .i64 p.dst, .int .i64 p.proto, .int .i64 p.a, .int .i64 p.b, .int .i64 p.kind, .int .i64 p.flags, .int .i64 p.seq, .int .i64 p.ack, .string p.body]), .is (.agg #[.int .i64 f.orig.proto, .int .i64 f.orig.src, .int .i64 f.orig.sport, .int .i64 f.orig.dst, .int .i64 f.orig.dport, .int .i64 f.orig.kind, .int .i64 f.back.proto, .int .i64 f.back.src, .int .i64 f.back.sport, .int .i64 f.back.dst, .int .i64 f.back.dport, .int .i64 f.back.kind, .int .i64 f.state, .bool f.seen, .bool f.sure, .int .i64 f.till, .int .i64 f.count]), .is (.bool b), .is (.bool (!b)), .is (.agg #[.int .i64 (sideF f (!b)).proto, .int .i64 (sideF f (!b)).src, .int .i64 (sideF f (!b)).sport, .int .i64 (sideF f (!b)).dst, .int .i64 (sideF f (!b)).dport, .int .i64 (sideF f (!b)).kind]), .is (.agg #[.int .i64 (invT (sideF f (!b))).proto, .int .i64 (invT (sideF f (!b))).src, .int .i64 (invT (sideF f (!b))).sport, .int .i64 (invT (sideF f (!b))).dst, .int .i64 (invT (sideF f (!b))).dport, .int .i64 (invT (sideF f (!b))).kind]), .is (.agg #[.int .i64 (withT p (invT (sideF f (!b)))).src, .int .i64 (withT p (invT (sideF f (!b)))).dst, .int .i64 (withT p (invT (sideF f (!b)))).proto, .int .i64 (withT p (invT (sideF f (!b)))).a, .int .i64 (withT p (invT (sideF f (!b)))).b, .int .i64 (withT p (invT (sideF f (!b)))).kind, .int .i64 (withT p (invT (sideF f (!b)))).flags, .int .i64 (withT p (invT (sideF f (!b)))).seq, .int .i64 (withT p (invT (sideF f (!b)))).ack, .string (withT p (invT (sideF f (!b)))).body]), .is (.agg #[.int .i64 (withT p (invT (sideF f (!b)))).src, .int .i64 (withT p (invT (sideF f (!b)))).dst, .int .i64 (withT p (invT (sideF f (!b)))).proto, .int .i64 (withT p (invT (sideF f (!b)))).a, .int .i64 (withT p (invT (sideF f (!b)))).b, .int .i64 (withT p (invT (sideF f (!b)))).kind, .int .i64 (withT p (invT (sideF f (!b)))).flags, .int .i64 (withT p (invT (sideF f (!b)))).seq, .int .i64 (withT p (invT (sideF f (!b)))).ack, .string (withT p (invT (sideF f (!b)))).body, .int .i64 0])] 7 6 31 31 31 (w.heap.size + 2) #[.int .i64 0, .int .i64 0, .int .i64 0, .int .i64 0, .int .i64 0, .int .i64 0, .int .i64 0, .int .i64 0, .int .i64 0, .string ⟨#[]⟩, .int .i64 0] #[.int .i64 (withT p (invT (sideF f (!b)))).src, .int .i64 (withT p (invT (sideF f (!b)))).dst, .int .i64 (withT p (invT (sideF f (!b)))).proto, .int .i64 (withT p (invT (sideF f (!b)))).a, .int .i64 (withT p (invT (sideF f (!b)))).b, .int .i64 (withT p (invT (sideF f (!b)))).kind, .int .i64 (withT p (invT (sideF f (!b)))).flags, .int .i64 (withT p (invT (sideF f (!b)))).seq, .int .i64 (withT p (invT (sideF f (!b)))).ack, .string (withT p (invT (sideF f (!b)))).body, .int .i64 0] rfl rfl rfl (by kernel_rfl) (by kernel_rfl) (by kernel_rfl) rfl rfl (by decide) (by kernel_rfl) (by kernel_rfl) (by decide) hGR1.out (by kernel_rfl) (by kernel_rfl) (by first | kernel_rfl | simp [Value.oneCell']) (by kernel_rfl) ?stepsN_8 ?finN_8
  case stepsN_8 =>
    refine ⟨?_, ?_, ?_, ?_, ?_, ?_, ?_, ?_, trivial⟩
    · refine ⟨rfl, fun v W ρ hC kc kf ks ki kd => ?_⟩
      have t4 : ρ (.tmp 4) = .pointer (some ⟨w.heap.size + 1, 0, none⟩) := ki 4 (by decide)
      have hg := blk_later hGP1.out hC
      have c0 := blk_cell hg 0
      have c1 := blk_cell hg 1
      have c2 := blk_cell hg 2
      have c3 := blk_cell hg 3
      have c4 := blk_cell hg 4
      have c5 := blk_cell hg 5
      have c6 := blk_cell hg 6
      have c7 := blk_cell hg 7
      have c8 := blk_cell hg 8
      have c9 := blk_cell hg 9
      simp at c0 c1 c2 c3 c4 c5 c6 c7 c8 c9
      simp [execOp, go_sem, kc, t4, c0, c1, c2, c3, c4, c5, c6, c7, c8, c9]
      exact ⟨hC, Below.refl _ _, rfl⟩
    · refine ⟨rfl, fun v W ρ hC kc kf ks ki kd => ?_⟩
      have t3 : ρ (.tmp 3) = .pointer (some ⟨w.heap.size, 0, none⟩) := ki 3 (by decide)
      simp only [execOp, t3, Sem.run_bind, loadAt_part (o := 0) [.int .i64 f.orig.proto, .int .i64 f.orig.src, .int .i64 f.orig.sport, .int .i64 f.orig.dst, .int .i64 f.orig.dport, .int .i64 f.orig.kind, .int .i64 f.back.proto, .int .i64 f.back.src, .int .i64 f.back.sport, .int .i64 f.back.dst, .int .i64 f.back.dport, .int .i64 f.back.kind, .int .i64 f.state, .bool f.seen, .bool f.sure, .int .i64 f.till, .int .i64 f.count] (blk_later hGF1.out hC) rfl Tryd.underlying35 rfl (by kernel_rfl), Result.andThen_ok, Sem.run_pure]
      exact ⟨hC, Below.refl _ _, rfl⟩
    · refine ⟨rfl, fun v W ρ hC kc kf ks ki kd => ?_⟩
      have t2 : ρ (.tmp 2) = .bool b := ki 2 (by decide)
      simp [execOp, go_sem, kc, t2]
      exact ⟨hC, Below.refl _ _, rfl⟩
    · refine ⟨rfl, fun v W ρ hC kc kf ks ki kd => ?_⟩
      have d2 : v 2 = .bool b := by first | exact kd _ (mem0 rfl) rfl | exact kd _ (mem1 rfl) rfl | exact kd _ (mem2 rfl) rfl | exact kd _ (mem3 rfl) rfl | exact kd _ (mem4 rfl) rfl | exact kd _ (mem5 rfl) rfl | exact kd _ (Array.mem_of_getElem? (i := 6) rfl) rfl | exact kd _ (Array.mem_of_getElem? (i := 7) rfl) rfl
      have t26 : ρ (.tmp 26) = .bool b := (ks 2 26 (by decide) rfl).trans d2
      simp [execOp, go_sem, kc, t26]
      exact ⟨hC, Below.refl _ _, rfl⟩
    · refine ⟨rfl, fun v W ρ hC kc kf ks ki kd => ?_⟩
      have d1 : v 1 = .agg #[.int .i64 f.orig.proto, .int .i64 f.orig.src, .int .i64 f.orig.sport, .int .i64 f.orig.dst, .int .i64 f.orig.dport, .int .i64 f.orig.kind, .int .i64 f.back.proto, .int .i64 f.back.src, .int .i64 f.back.sport, .int .i64 f.back.dst, .int .i64 f.back.dport, .int .i64 f.back.kind, .int .i64 f.state, .bool f.seen, .bool f.sure, .int .i64 f.till, .int .i64 f.count] := by first | exact kd _ (mem0 rfl) rfl | exact kd _ (mem1 rfl) rfl | exact kd _ (mem2 rfl) rfl | exact kd _ (mem3 rfl) rfl | exact kd _ (mem4 rfl) rfl | exact kd _ (mem5 rfl) rfl | exact kd _ (Array.mem_of_getElem? (i := 6) rfl) rfl | exact kd _ (Array.mem_of_getElem? (i := 7) rfl) rfl
      have t25 : ρ (.tmp 25) = .agg #[.int .i64 f.orig.proto, .int .i64 f.orig.src, .int .i64 f.orig.sport, .int .i64 f.orig.dst, .int .i64 f.orig.dport, .int .i64 f.orig.kind, .int .i64 f.back.proto, .int .i64 f.back.src, .int .i64 f.back.sport, .int .i64 f.back.dst, .int .i64 f.back.dport, .int .i64 f.back.kind, .int .i64 f.state, .bool f.seen, .bool f.sure, .int .i64 f.till, .int .i64 f.count] := (ks 1 25 (by decide) rfl).trans d1
      have d3 : v 3 = .bool (!b) := by first | exact kd _ (mem0 rfl) rfl | exact kd _ (mem1 rfl) rfl | exact kd _ (mem2 rfl) rfl | exact kd _ (mem3 rfl) rfl | exact kd _ (mem4 rfl) rfl | exact kd _ (mem5 rfl) rfl | exact kd _ (Array.mem_of_getElem? (i := 6) rfl) rfl | exact kd _ (Array.mem_of_getElem? (i := 7) rfl) rfl
      have t27 : ρ (.tmp 27) = .bool (!b) := (ks 3 27 (by decide) rfl).trans d3
      simp [execOp, go_sem, kc, t25, t27, kf]
      exact Calls.mono (HD2.out W) (fun e x h => ⟨_, h.1, hC.trans (h.2.mono hC.size), h.2, rfl⟩)
    · refine ⟨rfl, fun v W ρ hC kc kf ks ki kd => ?_⟩
      have d4 : v 4 = .agg #[.int .i64 (sideF f (!b)).proto, .int .i64 (sideF f (!b)).src, .int .i64 (sideF f (!b)).sport, .int .i64 (sideF f (!b)).dst, .int .i64 (sideF f (!b)).dport, .int .i64 (sideF f (!b)).kind] := by first | exact kd _ (mem0 rfl) rfl | exact kd _ (mem1 rfl) rfl | exact kd _ (mem2 rfl) rfl | exact kd _ (mem3 rfl) rfl | exact kd _ (mem4 rfl) rfl | exact kd _ (mem5 rfl) rfl | exact kd _ (Array.mem_of_getElem? (i := 6) rfl) rfl | exact kd _ (Array.mem_of_getElem? (i := 7) rfl) rfl
      have t28 : ρ (.tmp 28) = .agg #[.int .i64 (sideF f (!b)).proto, .int .i64 (sideF f (!b)).src, .int .i64 (sideF f (!b)).sport, .int .i64 (sideF f (!b)).dst, .int .i64 (sideF f (!b)).dport, .int .i64 (sideF f (!b)).kind] := (ks 4 28 (by decide) rfl).trans d4
      simp [execOp, go_sem, kc, t28, kf]
      exact Calls.mono (HI2.out W) (fun e x h => ⟨_, h.1, hC.trans (h.2.mono hC.size), h.2, rfl⟩)
    · refine ⟨rfl, fun v W ρ hC kc kf ks ki kd => ?_⟩
      have d0 : v 0 = .agg #[.int .i64 p.src, .int .i64 p.dst, .int .i64 p.proto, .int .i64 p.a, .int .i64 p.b, .int .i64 p.kind, .int .i64 p.flags, .int .i64 p.seq, .int .i64 p.ack, .string p.body] := by first | exact kd _ (mem0 rfl) rfl | exact kd _ (mem1 rfl) rfl | exact kd _ (mem2 rfl) rfl | exact kd _ (mem3 rfl) rfl | exact kd _ (mem4 rfl) rfl | exact kd _ (mem5 rfl) rfl | exact kd _ (Array.mem_of_getElem? (i := 6) rfl) rfl | exact kd _ (Array.mem_of_getElem? (i := 7) rfl) rfl
      have t24 : ρ (.tmp 24) = .agg #[.int .i64 p.src, .int .i64 p.dst, .int .i64 p.proto, .int .i64 p.a, .int .i64 p.b, .int .i64 p.kind, .int .i64 p.flags, .int .i64 p.seq, .int .i64 p.ack, .string p.body] := (ks 0 24 (by decide) rfl).trans d0
      have d5 : v 5 = .agg #[.int .i64 (invT (sideF f (!b))).proto, .int .i64 (invT (sideF f (!b))).src, .int .i64 (invT (sideF f (!b))).sport, .int .i64 (invT (sideF f (!b))).dst, .int .i64 (invT (sideF f (!b))).dport, .int .i64 (invT (sideF f (!b))).kind] := by first | exact kd _ (mem0 rfl) rfl | exact kd _ (mem1 rfl) rfl | exact kd _ (mem2 rfl) rfl | exact kd _ (mem3 rfl) rfl | exact kd _ (mem4 rfl) rfl | exact kd _ (mem5 rfl) rfl | exact kd _ (Array.mem_of_getElem? (i := 6) rfl) rfl | exact kd _ (Array.mem_of_getElem? (i := 7) rfl) rfl
      have t29 : ρ (.tmp 29) = .agg #[.int .i64 (invT (sideF f (!b))).proto, .int .i64 (invT (sideF f (!b))).src, .int .i64 (invT (sideF f (!b))).sport, .int .i64 (invT (sideF f (!b))).dst, .int .i64 (invT (sideF f (!b))).dport, .int .i64 (invT (sideF f (!b))).kind] := (ks 5 29 (by decide) rfl).trans d5
      simp [execOp, go_sem, kc, t24, t29, kf]
      exact Calls.mono (HW.out W) (fun e x h => ⟨_, h.1, hC.trans (h.2.mono hC.size), h.2, rfl⟩)
    · refine ⟨rfl, fun v W ρ hC kc kf ks ki kd => ?_⟩
      have d6 : v 6 = .agg #[.int .i64 (withT p (invT (sideF f (!b)))).src, .int .i64 (withT p (invT (sideF f (!b)))).dst, .int .i64 (withT p (invT (sideF f (!b)))).proto, .int .i64 (withT p (invT (sideF f (!b)))).a, .int .i64 (withT p (invT (sideF f (!b)))).b, .int .i64 (withT p (invT (sideF f (!b)))).kind, .int .i64 (withT p (invT (sideF f (!b)))).flags, .int .i64 (withT p (invT (sideF f (!b)))).seq, .int .i64 (withT p (invT (sideF f (!b)))).ack, .string (withT p (invT (sideF f (!b)))).body] := by first | exact kd _ (mem0 rfl) rfl | exact kd _ (mem1 rfl) rfl | exact kd _ (mem2 rfl) rfl | exact kd _ (mem3 rfl) rfl | exact kd _ (mem4 rfl) rfl | exact kd _ (mem5 rfl) rfl | exact kd _ (Array.mem_of_getElem? (i := 6) rfl) rfl | exact kd _ (Array.mem_of_getElem? (i := 7) rfl) rfl
      have t30 : ρ (.tmp 30) = .agg #[.int .i64 (withT p (invT (sideF f (!b)))).src, .int .i64 (withT p (invT (sideF f (!b)))).dst, .int .i64 (withT p (invT (sideF f (!b)))).proto, .int .i64 (withT p (invT (sideF f (!b)))).a, .int .i64 (withT p (invT (sideF f (!b)))).b, .int .i64 (withT p (invT (sideF f (!b)))).kind, .int .i64 (withT p (invT (sideF f (!b)))).flags, .int .i64 (withT p (invT (sideF f (!b)))).seq, .int .i64 (withT p (invT (sideF f (!b)))).ack, .string (withT p (invT (sideF f (!b)))).body] := (ks 6 30 (by decide) rfl).trans d6
      simp [execOp, go_sem, kc, t30]
      exact ⟨hC, Below.refl _ _, rfl⟩
  intro vN_8 WN_8 hBN_8 hgN_8 hall
  simp [upto, Act.put]
  clear hall
  have hEN_8 := hidS (hL1.out.trans (hBN_8 w.heap.size (by omega)))
  have hcN_8 := loadVar_blk (P := Tryd.prog) hgN_8 Tryd.underlying31 rfl (by kernel_rfl)
  clear hBN_8 hgN_8 hL1 hGF1 hGP1 hGR1
  go_wp2_with fail
  exact bodyPost_ret (v := .agg #[.int .i64 (withT p (invT (sideF f (!b)))).src, .int .i64 (withT p (invT (sideF f (!b)))).dst, .int .i64 (withT p (invT (sideF f (!b)))).proto, .int .i64 (withT p (invT (sideF f (!b)))).a, .int .i64 (withT p (invT (sideF f (!b)))).b, .int .i64 (withT p (invT (sideF f (!b)))).kind, .int .i64 (withT p (invT (sideF f (!b)))).flags, .int .i64 (withT p (invT (sideF f (!b)))).seq, .int .i64 (withT p (invT (sideF f (!b)))).ack, .string (withT p (invT (sideF f (!b)))).body, .int .i64 0]) (results_cell Tryd.results6 rfl hcN_8) rfl ⟨by rw [EA.out, EC.out], hEN_8.out⟩
end Go.Proofs.YtbhemimhmkgfiaaDoor
