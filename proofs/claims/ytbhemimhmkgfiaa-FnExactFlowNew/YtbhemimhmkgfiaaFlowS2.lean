/- Proved here: spec.l09New and spec.FlowNew answer as the plain functions; all old memory stays (no conditions but those that stand there). -/
import Derived.Test.YtbhemimhmkgfiaaFlowS1T
import Derived.Test.YtbhemimhmkgfiaaAll22
import Derived.Test.YtbhemimhmkgfiaaAll23
import Derived.Test.YtbhemimhmkgfiaaTcpNext
import Derived.Test.YtbhemimhmkgfiaaGrow
namespace Go.Proofs.Ytbhemimhmkgfiaa
open Go.ChangeShapes Go.WideShapes Go.ChangeAt Go.RowKit
set_option linter.unusedVariables false
set_option linter.unusedSimpArgs false
set_option maxRecDepth 100000

set_option maxHeartbeats 8000000 in
theorem l09New_any (p : Pk) (g : Tp) (now : Int) (w : World) (hg : rightT g = true) (h0 : 0 ≤ now ∧ now ≤ 1000000) :
    Calls Try.prog 24 #[.agg #[.int .i64 p.src, .int .i64 p.dst, .int .i64 p.proto, .int .i64 p.a, .int .i64 p.b, .int .i64 p.kind, .int .i64 p.flags, .int .i64 p.seq, .int .i64 p.ack, .string p.body], .agg #[.int .i64 g.proto, .int .i64 g.src, .int .i64 g.sport, .int .i64 g.dst, .int .i64 g.dport, .int .i64 g.kind], .int .i64 now] w fun e w' => e = .returned (.agg #[.int .i64 (flowN p g now).orig.proto, .int .i64 (flowN p g now).orig.src, .int .i64 (flowN p g now).orig.sport, .int .i64 (flowN p g now).orig.dst, .int .i64 (flowN p g now).orig.dport, .int .i64 (flowN p g now).orig.kind, .int .i64 (flowN p g now).back.proto, .int .i64 (flowN p g now).back.src, .int .i64 (flowN p g now).back.sport, .int .i64 (flowN p g now).back.dst, .int .i64 (flowN p g now).back.dport, .int .i64 (flowN p g now).back.kind, .int .i64 (flowN p g now).state, .bool (flowN p g now).seen, .bool (flowN p g now).sure, .int .i64 (flowN p g now).till, .int .i64 (flowN p g now).count, .int .i64 (codeN p)]) ∧ Below w.heap.size w w' := by
  have HF := hidS (fun W => l04Of_any p W)
  have HI := hidS (fun W => l04Invert_any g W hg)
  have HS := hidS (fun W => specSign_any p.flags W)
  have HN := hidS (fun W => specNext_any 0 false (signZ p.flags) W)
  have HIL := hidS (fun W => l09Ill_any 10 W)
  have HT := hidS (fun F W => specTill_any F now W h0 (life_bd F.state))
  have HC := hidS (fun h6 hn => codeN_syn (p := p) h6 hn)
  have HY := hidS (fun s hc hs => flowN_yes (p := p) g now s hc hs)
  have HD6 := hidS (fun h6 hn => codeN_ok6 (p := p) h6 hn)
  have HT6 := hidS (fun (h6 : p.proto = 6) => toZ_6 (s := 0) (b := false) (f := p.flags) h6)
  clear hg h0
  have hGP0 : Hid ((((w.alloc (.cells #[.int .i64 p.src, .int .i64 p.dst, .int .i64 p.proto, .int .i64 p.a, .int .i64 p.b, .int .i64 p.kind, .int .i64 p.flags, .int .i64 p.seq, .int .i64 p.ack, .string p.body] 38)).alloc (.cells #[.int .i64 g.proto, .int .i64 g.src, .int .i64 g.sport, .int .i64 g.dst, .int .i64 g.dport, .int .i64 g.kind] 27)).alloc (.cells #[.int .i64 0, .int .i64 0, .int .i64 0, .int .i64 0, .int .i64 0, .int .i64 0, .int .i64 0, .int .i64 0, .int .i64 0, .int .i64 0, .int .i64 0, .int .i64 0, .int .i64 0, .bool false, .bool false, .int .i64 0, .int .i64 0, .int .i64 0] 36)).heap[w.heap.size]? = some (.cells #[.int .i64 p.src, .int .i64 p.dst, .int .i64 p.proto, .int .i64 p.a, .int .i64 p.b, .int .i64 p.kind, .int .i64 p.flags, .int .i64 p.seq, .int .i64 p.ack, .string p.body] 38)) := by
    show _ = _
    have := blk_alloc (blk_alloc (heap_newG w (.cells #[.int .i64 p.src, .int .i64 p.dst, .int .i64 p.proto, .int .i64 p.a, .int .i64 p.b, .int .i64 p.kind, .int .i64 p.flags, .int .i64 p.seq, .int .i64 p.ack, .string p.body] 38)) (.cells #[.int .i64 g.proto, .int .i64 g.src, .int .i64 g.sport, .int .i64 g.dst, .int .i64 g.dport, .int .i64 g.kind] 27)) (.cells #[.int .i64 0, .int .i64 0, .int .i64 0, .int .i64 0, .int .i64 0, .int .i64 0, .int .i64 0, .int .i64 0, .int .i64 0, .int .i64 0, .int .i64 0, .int .i64 0, .int .i64 0, .bool false, .bool false, .int .i64 0, .int .i64 0, .int .i64 0] 36)
    simpa using this
  have hGT0 : Hid ((((w.alloc (.cells #[.int .i64 p.src, .int .i64 p.dst, .int .i64 p.proto, .int .i64 p.a, .int .i64 p.b, .int .i64 p.kind, .int .i64 p.flags, .int .i64 p.seq, .int .i64 p.ack, .string p.body] 38)).alloc (.cells #[.int .i64 g.proto, .int .i64 g.src, .int .i64 g.sport, .int .i64 g.dst, .int .i64 g.dport, .int .i64 g.kind] 27)).alloc (.cells #[.int .i64 0, .int .i64 0, .int .i64 0, .int .i64 0, .int .i64 0, .int .i64 0, .int .i64 0, .int .i64 0, .int .i64 0, .int .i64 0, .int .i64 0, .int .i64 0, .int .i64 0, .bool false, .bool false, .int .i64 0, .int .i64 0, .int .i64 0] 36)).heap[w.heap.size + 1]? = some (.cells #[.int .i64 g.proto, .int .i64 g.src, .int .i64 g.sport, .int .i64 g.dst, .int .i64 g.dport, .int .i64 g.kind] 27)) := by
    show _ = _
    have := blk_alloc (heap_newG (w.alloc (.cells #[.int .i64 p.src, .int .i64 p.dst, .int .i64 p.proto, .int .i64 p.a, .int .i64 p.b, .int .i64 p.kind, .int .i64 p.flags, .int .i64 p.seq, .int .i64 p.ack, .string p.body] 38)) (.cells #[.int .i64 g.proto, .int .i64 g.src, .int .i64 g.sport, .int .i64 g.dst, .int .i64 g.dport, .int .i64 g.kind] 27)) (.cells #[.int .i64 0, .int .i64 0, .int .i64 0, .int .i64 0, .int .i64 0, .int .i64 0, .int .i64 0, .int .i64 0, .int .i64 0, .int .i64 0, .int .i64 0, .int .i64 0, .int .i64 0, .bool false, .bool false, .int .i64 0, .int .i64 0, .int .i64 0] 36)
    simpa using this
  have hGR0 : Hid ((((w.alloc (.cells #[.int .i64 p.src, .int .i64 p.dst, .int .i64 p.proto, .int .i64 p.a, .int .i64 p.b, .int .i64 p.kind, .int .i64 p.flags, .int .i64 p.seq, .int .i64 p.ack, .string p.body] 38)).alloc (.cells #[.int .i64 g.proto, .int .i64 g.src, .int .i64 g.sport, .int .i64 g.dst, .int .i64 g.dport, .int .i64 g.kind] 27)).alloc (.cells #[.int .i64 0, .int .i64 0, .int .i64 0, .int .i64 0, .int .i64 0, .int .i64 0, .int .i64 0, .int .i64 0, .int .i64 0, .int .i64 0, .int .i64 0, .int .i64 0, .int .i64 0, .bool false, .bool false, .int .i64 0, .int .i64 0, .int .i64 0] 36)).heap[w.heap.size + 2]? = some (.cells #[.int .i64 0, .int .i64 0, .int .i64 0, .int .i64 0, .int .i64 0, .int .i64 0, .int .i64 0, .int .i64 0, .int .i64 0, .int .i64 0, .int .i64 0, .int .i64 0, .int .i64 0, .bool false, .bool false, .int .i64 0, .int .i64 0, .int .i64 0] 36)) := by
    show _ = _
    have := heap_newG ((w.alloc (.cells #[.int .i64 p.src, .int .i64 p.dst, .int .i64 p.proto, .int .i64 p.a, .int .i64 p.b, .int .i64 p.kind, .int .i64 p.flags, .int .i64 p.seq, .int .i64 p.ack, .string p.body] 38)).alloc (.cells #[.int .i64 g.proto, .int .i64 g.src, .int .i64 g.sport, .int .i64 g.dst, .int .i64 g.dport, .int .i64 g.kind] 27)) (.cells #[.int .i64 0, .int .i64 0, .int .i64 0, .int .i64 0, .int .i64 0, .int .i64 0, .int .i64 0, .int .i64 0, .int .i64 0, .int .i64 0, .int .i64 0, .int .i64 0, .int .i64 0, .bool false, .bool false, .int .i64 0, .int .i64 0, .int .i64 0] 36)
    simpa using this
  have hL0 := hidS ((((Below.refl w.heap.size w).alloc (Nat.le_refl _) (.cells #[.int .i64 p.src, .int .i64 p.dst, .int .i64 p.proto, .int .i64 p.a, .int .i64 p.b, .int .i64 p.kind, .int .i64 p.flags, .int .i64 p.seq, .int .i64 p.ack, .string p.body] 38)).alloc (by simp) (.cells #[.int .i64 g.proto, .int .i64 g.src, .int .i64 g.sport, .int .i64 g.dst, .int .i64 g.dport, .int .i64 g.kind] 27)).alloc (by simp; omega) (.cells #[.int .i64 0, .int .i64 0, .int .i64 0, .int .i64 0, .int .i64 0, .int .i64 0, .int .i64 0, .int .i64 0, .int .i64 0, .int .i64 0, .int .i64 0, .int .i64 0, .int .i64 0, .bool false, .bool false, .int .i64 0, .int .i64 0, .int .i64 0] 36))
  go_enter Try.func24, Try.ntmps24
  go_upto_region 1 with fail
  generalize (((w.alloc (.cells #[.int .i64 p.src, .int .i64 p.dst, .int .i64 p.proto, .int .i64 p.a, .int .i64 p.b, .int .i64 p.kind, .int .i64 p.flags, .int .i64 p.seq, .int .i64 p.ack, .string p.body] 38)).alloc (.cells #[.int .i64 g.proto, .int .i64 g.src, .int .i64 g.sport, .int .i64 g.dst, .int .i64 g.dport, .int .i64 g.kind] 27)).alloc (.cells #[.int .i64 0, .int .i64 0, .int .i64 0, .int .i64 0, .int .i64 0, .int .i64 0, .int .i64 0, .int .i64 0, .int .i64 0, .int .i64 0, .int .i64 0, .int .i64 0, .int .i64 0, .bool false, .bool false, .int .i64 0, .int .i64 0, .int .i64 0] 36)) = w0 at hGP0 hGT0 hGR0 hL0 ⊢
  refine grow_struct 6 _ [.is (.agg #[.int .i64 p.src, .int .i64 p.dst, .int .i64 p.proto, .int .i64 p.a, .int .i64 p.b, .int .i64 p.kind, .int .i64 p.flags, .int .i64 p.seq, .int .i64 p.ack, .string p.body]), .is (.agg #[.int .i64 (ofP p).proto, .int .i64 (ofP p).src, .int .i64 (ofP p).sport, .int .i64 (ofP p).dst, .int .i64 (ofP p).dport, .int .i64 (ofP p).kind]), .is (.agg #[.int .i64 g.proto, .int .i64 g.src, .int .i64 g.sport, .int .i64 g.dst, .int .i64 g.dport, .int .i64 g.kind]), .is (.agg #[.int .i64 (invT g).proto, .int .i64 (invT g).src, .int .i64 (invT g).sport, .int .i64 (invT g).dst, .int .i64 (invT g).dport, .int .i64 (invT g).kind]), .is (.agg #[.int .i64 (ofP p).proto, .int .i64 (ofP p).src, .int .i64 (ofP p).sport, .int .i64 (ofP p).dst, .int .i64 (ofP p).dport, .int .i64 (ofP p).kind, .int .i64 (invT g).proto, .int .i64 (invT g).src, .int .i64 (invT g).sport, .int .i64 (invT g).dst, .int .i64 (invT g).dport, .int .i64 (invT g).kind, .int .i64 0, .bool false, .bool false, .int .i64 0, .int .i64 1]), .blk w0.heap.size #[.int .i64 0, .int .i64 0, .int .i64 0, .int .i64 0, .int .i64 0, .int .i64 0, .int .i64 0, .int .i64 0, .int .i64 0, .int .i64 0, .int .i64 0, .int .i64 0, .int .i64 0, .bool false, .bool false, .int .i64 0, .int .i64 0] 29] 5 4 7 12 29 29 #[.int .i64 0, .int .i64 0, .int .i64 0, .int .i64 0, .int .i64 0, .int .i64 0, .int .i64 0, .int .i64 0, .int .i64 0, .int .i64 0, .int .i64 0, .int .i64 0, .int .i64 0, .bool false, .bool false, .int .i64 0, .int .i64 0] #[.int .i64 (ofP p).proto, .int .i64 (ofP p).src, .int .i64 (ofP p).sport, .int .i64 (ofP p).dst, .int .i64 (ofP p).dport, .int .i64 (ofP p).kind, .int .i64 (invT g).proto, .int .i64 (invT g).src, .int .i64 (invT g).sport, .int .i64 (invT g).dst, .int .i64 (invT g).dport, .int .i64 (invT g).kind, .int .i64 0, .bool false, .bool false, .int .i64 0, .int .i64 1] rfl rfl rfl (by kernel_rfl) (by kernel_rfl) (by kernel_rfl) rfl rfl rfl rfl (by decide) (by decide) rfl rfl rfl (by first | kernel_rfl | simp [Value.oneCell']) (by kernel_rfl) ?stepsA_2 ?finA_2
  case stepsA_2 =>
    refine ⟨?_, ?_, ?_, ?_, ?_, ?_, trivial⟩
    · refine ⟨rfl, fun v W ρ hC kc kf ks ki kd => ?_⟩
      have t3 : ρ (.tmp 3) = .pointer (some ⟨w.heap.size, 0, none⟩) := ki 3 (by decide)
      have hg := blk_later hGP0.out hC
      have c0 := blk_cell hg 0
      have c1 := blk_cell hg 1
      have c2 := blk_cell hg 2
      have c3 := blk_cell hg 3
      have c4 := blk_cell hg 4
      have c5 := blk_cell hg 5
      have c6 := blk_cell hg 6
      have c7 := blk_cell hg 7
      have c8 := blk_cell hg 8
      have c9 := blk_cell hg 9
      simp at c0 c1 c2 c3 c4 c5 c6 c7 c8 c9
      simp [execOp, go_sem, kc, t3, c0, c1, c2, c3, c4, c5, c6, c7, c8, c9]
      exact ⟨hC, Below.refl _ _, rfl⟩
    · refine ⟨rfl, fun v W ρ hC kc kf ks ki kd => ?_⟩
      have d0 : v 0 = .agg #[.int .i64 p.src, .int .i64 p.dst, .int .i64 p.proto, .int .i64 p.a, .int .i64 p.b, .int .i64 p.kind, .int .i64 p.flags, .int .i64 p.seq, .int .i64 p.ack, .string p.body] := by first | exact kd _ (mem0 rfl) rfl | exact kd _ (mem1 rfl) rfl | exact kd _ (mem2 rfl) rfl | exact kd _ (mem3 rfl) rfl | exact kd _ (mem4 rfl) rfl | exact kd _ (mem5 rfl) rfl | exact kd _ (Array.mem_of_getElem? (i := 6) rfl) rfl | exact kd _ (Array.mem_of_getElem? (i := 7) rfl) rfl
      have t8 : ρ (.tmp 8) = .agg #[.int .i64 p.src, .int .i64 p.dst, .int .i64 p.proto, .int .i64 p.a, .int .i64 p.b, .int .i64 p.kind, .int .i64 p.flags, .int .i64 p.seq, .int .i64 p.ack, .string p.body] := (ks 0 8 (by decide) rfl).trans d0
      simp [execOp, go_sem, kc, t8, kf]
      exact Calls.mono (HF.out W) (fun e x h => ⟨_, h.1, hC.trans (h.2.mono hC.size), h.2, rfl⟩)
    · refine ⟨rfl, fun v W ρ hC kc kf ks ki kd => ?_⟩
      have t4 : ρ (.tmp 4) = .pointer (some ⟨w.heap.size + 1, 0, none⟩) := ki 4 (by decide)
      have hg := blk_later hGT0.out hC
      have c0 := blk_cell hg 0
      have c1 := blk_cell hg 1
      have c2 := blk_cell hg 2
      have c3 := blk_cell hg 3
      have c4 := blk_cell hg 4
      have c5 := blk_cell hg 5
      simp at c0 c1 c2 c3 c4 c5
      simp [execOp, go_sem, kc, t4, c0, c1, c2, c3, c4, c5]
      exact ⟨hC, Below.refl _ _, rfl⟩
    · refine ⟨rfl, fun v W ρ hC kc kf ks ki kd => ?_⟩
      have d2 : v 2 = .agg #[.int .i64 g.proto, .int .i64 g.src, .int .i64 g.sport, .int .i64 g.dst, .int .i64 g.dport, .int .i64 g.kind] := by first | exact kd _ (mem0 rfl) rfl | exact kd _ (mem1 rfl) rfl | exact kd _ (mem2 rfl) rfl | exact kd _ (mem3 rfl) rfl | exact kd _ (mem4 rfl) rfl | exact kd _ (mem5 rfl) rfl | exact kd _ (Array.mem_of_getElem? (i := 6) rfl) rfl | exact kd _ (Array.mem_of_getElem? (i := 7) rfl) rfl
      have t10 : ρ (.tmp 10) = .agg #[.int .i64 g.proto, .int .i64 g.src, .int .i64 g.sport, .int .i64 g.dst, .int .i64 g.dport, .int .i64 g.kind] := (ks 2 10 (by decide) rfl).trans d2
      simp [execOp, go_sem, kc, t10, kf]
      exact Calls.mono (HI.out W) (fun e x h => ⟨_, h.1, hC.trans (h.2.mono hC.size), h.2, rfl⟩)
    · refine ⟨rfl, fun v W ρ hC kc kf ks ki kd => ?_⟩
      have d1 : v 1 = .agg #[.int .i64 (ofP p).proto, .int .i64 (ofP p).src, .int .i64 (ofP p).sport, .int .i64 (ofP p).dst, .int .i64 (ofP p).dport, .int .i64 (ofP p).kind] := by first | exact kd _ (mem0 rfl) rfl | exact kd _ (mem1 rfl) rfl | exact kd _ (mem2 rfl) rfl | exact kd _ (mem3 rfl) rfl | exact kd _ (mem4 rfl) rfl | exact kd _ (mem5 rfl) rfl | exact kd _ (Array.mem_of_getElem? (i := 6) rfl) rfl | exact kd _ (Array.mem_of_getElem? (i := 7) rfl) rfl
      have t9 : ρ (.tmp 9) = .agg #[.int .i64 (ofP p).proto, .int .i64 (ofP p).src, .int .i64 (ofP p).sport, .int .i64 (ofP p).dst, .int .i64 (ofP p).dport, .int .i64 (ofP p).kind] := (ks 1 9 (by decide) rfl).trans d1
      have d3 : v 3 = .agg #[.int .i64 (invT g).proto, .int .i64 (invT g).src, .int .i64 (invT g).sport, .int .i64 (invT g).dst, .int .i64 (invT g).dport, .int .i64 (invT g).kind] := by first | exact kd _ (mem0 rfl) rfl | exact kd _ (mem1 rfl) rfl | exact kd _ (mem2 rfl) rfl | exact kd _ (mem3 rfl) rfl | exact kd _ (mem4 rfl) rfl | exact kd _ (mem5 rfl) rfl | exact kd _ (Array.mem_of_getElem? (i := 6) rfl) rfl | exact kd _ (Array.mem_of_getElem? (i := 7) rfl) rfl
      have t11 : ρ (.tmp 11) = .agg #[.int .i64 (invT g).proto, .int .i64 (invT g).src, .int .i64 (invT g).sport, .int .i64 (invT g).dst, .int .i64 (invT g).dport, .int .i64 (invT g).kind] := (ks 3 11 (by decide) rfl).trans d3
      simp [execOp, go_sem, kc, t9, t11]
      exact ⟨hC, Below.refl _ _, rfl⟩
    · refine ⟨rfl, fun v W ρ hC kc kf ks ki kd => ?_⟩
      simp [execOp, go_sem]
      exact ⟨hC.alloc hC.size _, (Below.refl _ _).alloc (Nat.le_refl _) _, W.heap.size, rfl, hC.size, heap_newG _ _⟩
  intro vA_2 w1 gF hb hvB hnF hBk hall
  simp [upto, Act.put]
  rw [hvB]
  clear hall hvB
  have hGP1 := hidS (blk_later hGP0.out hb)
  have lFP := blk_lt hGP0.out
  have hGT1 := hidS (blk_later hGT0.out hb)
  have lFT := blk_lt hGT0.out
  have hGR1 := hidS (blk_later hGR0.out hb)
  have lFR := blk_lt hGR0.out
  have lwF := hL0.out.size
  have hL1 := hidS (hL0.out.trans (hb.mono hL0.out.size))
  have hGF1 := hidS hBk
  clear hb hBk hL0 hGP0 hGT0 hGR0
  by_cases h6 : p.proto = 6
  · have p6 : (p.proto == 6) = true := beq_iff_eq.2 h6
    have HC6 := hidS (HC.out h6)
    have HD := hidS (HD6.out h6)
    have hT := hidS (HT6.out h6)
    clear HC HD6 HT6
    have p1 : (p.proto == 1) = false := beq_eq_false_iff_ne.2 (by omega)
    clear h6
    have cP0 := blk_cell hGP1.out 0
    have cP1 := blk_cell hGP1.out 1
    have cP2 := blk_cell hGP1.out 2
    have cP3 := blk_cell hGP1.out 3
    have cP4 := blk_cell hGP1.out 4
    have cP5 := blk_cell hGP1.out 5
    have cP6 := blk_cell hGP1.out 6
    have cP7 := blk_cell hGP1.out 7
    have cP8 := blk_cell hGP1.out 8
    have cP9 := blk_cell hGP1.out 9
    simp at cP0 cP1 cP2 cP3 cP4 cP5 cP6 cP7 cP8 cP9
    go_wp2_with fail
    refine (HS.out _).mono ?_
    rintro _ v ⟨rfl, hv⟩
    rw [hv]
    clear hv v
    go_wp2_with fail
    refine (HN.out _).mono ?_
    rintro _ v ⟨rfl, hv⟩
    rw [hv]
    clear hv v
    generalize nextZ 0 false (signZ p.flags) = s at *
    have cP0 := blk_cell hGP1.out 0
    have cP1 := blk_cell hGP1.out 1
    have cP2 := blk_cell hGP1.out 2
    have cP3 := blk_cell hGP1.out 3
    have cP4 := blk_cell hGP1.out 4
    have cP5 := blk_cell hGP1.out 5
    have cP6 := blk_cell hGP1.out 6
    have cP7 := blk_cell hGP1.out 7
    have cP8 := blk_cell hGP1.out 8
    have cP9 := blk_cell hGP1.out 9
    simp at cP0 cP1 cP2 cP3 cP4 cP5 cP6 cP7 cP8 cP9
    have kF := blk_cell hGF1.out
    have fF := blk_free hGF1.out
    go_upto_region 4 with fail
    clear cP0 cP1 cP2 cP3 cP4 cP5 cP6 cP7 cP8 cP9 kF fF
    have hGF2 : Hid ((w1.setCell ⟨gF, 12, none⟩ (.int .i64 s)).heap[gF]? = some (.cells #[.int .i64 (ofP p).proto, .int .i64 (ofP p).src, .int .i64 (ofP p).sport, .int .i64 (ofP p).dst, .int .i64 (ofP p).dport, .int .i64 (ofP p).kind, .int .i64 (invT g).proto, .int .i64 (invT g).src, .int .i64 (invT g).sport, .int .i64 (invT g).dst, .int .i64 (invT g).dport, .int .i64 (invT g).kind, .int .i64 s, .bool false, .bool false, .int .i64 0, .int .i64 1] 29)) := by
      have := (blk_set hGF1.out 12 (.int .i64 s))
      exact this
    have hGP2 := hidS (blk_other (B := gF) hGP1.out (by omega) 12 (.int .i64 s))
    have hGT2 := hidS (blk_other (B := gF) hGT1.out (by omega) 12 (.int .i64 s))
    have hGR2 := hidS (blk_other (B := gF) hGR1.out (by omega) 12 (.int .i64 s))
    have hL2 := hidS (below_at (k := 12) (b := gF) (v := .int .i64 s) hL1.out (by omega))
    clear hL1 hGF1 hGP1 hGT1 hGR1
    generalize (w1.setCell ⟨gF, 12, none⟩ (.int .i64 s)) = w2 at hGP2 hGT2 hGR2 hGF2 hL2 ⊢
    have cF0 := blk_cell hGF2.out 0
    have cF1 := blk_cell hGF2.out 1
    have cF2 := blk_cell hGF2.out 2
    have cF3 := blk_cell hGF2.out 3
    have cF4 := blk_cell hGF2.out 4
    have cF5 := blk_cell hGF2.out 5
    have cF6 := blk_cell hGF2.out 6
    have cF7 := blk_cell hGF2.out 7
    have cF8 := blk_cell hGF2.out 8
    have cF9 := blk_cell hGF2.out 9
    have cF10 := blk_cell hGF2.out 10
    have cF11 := blk_cell hGF2.out 11
    have cF12 := blk_cell hGF2.out 12
    have cF13 := blk_cell hGF2.out 13
    have cF14 := blk_cell hGF2.out 14
    have cF15 := blk_cell hGF2.out 15
    have cF16 := blk_cell hGF2.out 16
    simp at cF0 cF1 cF2 cF3 cF4 cF5 cF6 cF7 cF8 cF9 cF10 cF11 cF12 cF13 cF14 cF15 cF16
    by_cases hs : s < 0
    · have E := hidS (HC6.out (by omega))
      have EF := hidS (flowN_no (p := p) g now E.out)
      go_upto_region 5 with fail
      clear cF0 cF1 cF2 cF3 cF4 cF5 cF6 cF7 cF8 cF9 cF10 cF11 cF12 cF13 cF14 cF15 cF16
      refine plain_into 1 _ [.is (.agg #[.int .i64 0, .int .i64 0, .int .i64 0, .int .i64 0, .int .i64 0, .int .i64 0, .int .i64 0, .int .i64 0, .int .i64 0, .int .i64 0, .int .i64 0, .int .i64 0, .int .i64 0, .bool false, .bool false, .int .i64 0, .int .i64 0, .int .i64 10])] 0 6 24 36 36 (w.heap.size + 2) #[.int .i64 0, .int .i64 0, .int .i64 0, .int .i64 0, .int .i64 0, .int .i64 0, .int .i64 0, .int .i64 0, .int .i64 0, .int .i64 0, .int .i64 0, .int .i64 0, .int .i64 0, .bool false, .bool false, .int .i64 0, .int .i64 0, .int .i64 0] #[.int .i64 0, .int .i64 0, .int .i64 0, .int .i64 0, .int .i64 0, .int .i64 0, .int .i64 0, .int .i64 0, .int .i64 0, .int .i64 0, .int .i64 0, .int .i64 0, .int .i64 0, .bool false, .bool false, .int .i64 0, .int .i64 0, .int .i64 10] rfl rfl rfl (by kernel_rfl) (by kernel_rfl) (by kernel_rfl) rfl rfl (by decide) (by kernel_rfl) (by kernel_rfl) (by decide) hGR2.out (by kernel_rfl) (by kernel_rfl) (by first | kernel_rfl | simp [Value.oneCell']) (by kernel_rfl) ?stepsZ5_3 ?finZ5_3
      case stepsZ5_3 =>
        refine ⟨?_, trivial⟩
        · refine ⟨rfl, fun v W ρ hC kc kf ks ki kd => ?_⟩
          simp [execOp, go_sem, kc, kf]
          exact Calls.mono (HIL.out W) (fun e x h => ⟨_, h.1, hC.trans (h.2.mono hC.size), h.2, rfl⟩)
      intro vZ5_3 WZ5_3 hBZ5_3 hgZ5_3 hall
      simp [upto, Act.put]
      clear hall
      have hEZ5_3 := hidS (hL2.out.trans (hBZ5_3 w.heap.size (by omega)))
      have hcZ5_3 := loadVar_blk (P := Try.prog) hgZ5_3 Try.underlying36 rfl (by kernel_rfl)
      clear hBZ5_3 hgZ5_3 hL2 hGP2 hGT2 hGR2 hGF2
      go_wp2_with fail
      exact bodyPost_ret (v := .agg #[.int .i64 0, .int .i64 0, .int .i64 0, .int .i64 0, .int .i64 0, .int .i64 0, .int .i64 0, .int .i64 0, .int .i64 0, .int .i64 0, .int .i64 0, .int .i64 0, .int .i64 0, .bool false, .bool false, .int .i64 0, .int .i64 0, .int .i64 10]) (results_cell Try.results24 rfl hcZ5_3) rfl ⟨by rw [EF.out, E.out]; rfl, hEZ5_3.out⟩
    have EC := hidS (HD.out (by omega))
    have EF := hidS (HY.out s EC.out hT.out)
    clear HC6 HD hT HY HS HN
    clear cF0 cF1 cF2 cF3 cF4 cF5 cF6 cF7 cF8 cF9 cF10 cF11 cF12 cF13 cF14 cF15 cF16
    have cP0 := blk_cell hGP2.out 0
    have cP1 := blk_cell hGP2.out 1
    have cP2 := blk_cell hGP2.out 2
    have cP3 := blk_cell hGP2.out 3
    have cP4 := blk_cell hGP2.out 4
    have cP5 := blk_cell hGP2.out 5
    have cP6 := blk_cell hGP2.out 6
    have cP7 := blk_cell hGP2.out 7
    have cP8 := blk_cell hGP2.out 8
    have cP9 := blk_cell hGP2.out 9
    simp at cP0 cP1 cP2 cP3 cP4 cP5 cP6 cP7 cP8 cP9
    have cF0 := blk_cell hGF2.out 0
    have cF1 := blk_cell hGF2.out 1
    have cF2 := blk_cell hGF2.out 2
    have cF3 := blk_cell hGF2.out 3
    have cF4 := blk_cell hGF2.out 4
    have cF5 := blk_cell hGF2.out 5
    have cF6 := blk_cell hGF2.out 6
    have cF7 := blk_cell hGF2.out 7
    have cF8 := blk_cell hGF2.out 8
    have cF9 := blk_cell hGF2.out 9
    have cF10 := blk_cell hGF2.out 10
    have cF11 := blk_cell hGF2.out 11
    have cF12 := blk_cell hGF2.out 12
    have cF13 := blk_cell hGF2.out 13
    have cF14 := blk_cell hGF2.out 14
    have cF15 := blk_cell hGF2.out 15
    have cF16 := blk_cell hGF2.out 16
    simp at cF0 cF1 cF2 cF3 cF4 cF5 cF6 cF7 cF8 cF9 cF10 cF11 cF12 cF13 cF14 cF15 cF16
    go_upto_region 8 with fail
    clear cP0 cP1 cP2 cP3 cP4 cP5 cP6 cP7 cP8 cP9 cF0 cF1 cF2 cF3 cF4 cF5 cF6 cF7 cF8 cF9 cF10 cF11 cF12 cF13 cF14 cF15 cF16
    go_wp2_with (first | refine wpList_load_blk 29 (.tmp 7) rfl rfl rfl hGF2.out Try.underlying29 rfl (by kernel_rfl) ?_)
    refine (HT.out ⟨ofP p, invT g, s, false, false, 0, 1⟩ _).mono ?_
    rintro _ w3 ⟨rfl, hb3⟩
    have hGP3 := hidS (blk_later hGP2.out hb3)
    have hGT3 := hidS (blk_later hGT2.out hb3)
    have hGR3 := hidS (blk_later hGR2.out hb3)
    have hGF3 := hidS (blk_later hGF2.out hb3)
    have hL3 := hidS (hL2.out.trans (hb3.mono hL2.out.size))
    clear hb3 hL2 hGP2 hGT2 hGR2 hGF2
    generalize hTL : tillF ⟨ofP p, invT g, s, false, false, 0, 1⟩ now = tl at *
    have kF := blk_cell hGF3.out
    have fF := blk_free hGF3.out
    go_upto_region 9 with fail
    clear kF fF
    have hGF4 : Hid ((w3.setCell ⟨gF, 15, none⟩ (.int .i64 tl)).heap[gF]? = some (.cells #[.int .i64 (ofP p).proto, .int .i64 (ofP p).src, .int .i64 (ofP p).sport, .int .i64 (ofP p).dst, .int .i64 (ofP p).dport, .int .i64 (ofP p).kind, .int .i64 (invT g).proto, .int .i64 (invT g).src, .int .i64 (invT g).sport, .int .i64 (invT g).dst, .int .i64 (invT g).dport, .int .i64 (invT g).kind, .int .i64 s, .bool false, .bool false, .int .i64 tl, .int .i64 1] 29)) := by
      have := (blk_set hGF3.out 15 (.int .i64 tl))
      exact this
    have hGP4 := hidS (blk_other (B := gF) hGP3.out (by omega) 15 (.int .i64 tl))
    have hGT4 := hidS (blk_other (B := gF) hGT3.out (by omega) 15 (.int .i64 tl))
    have hGR4 := hidS (blk_other (B := gF) hGR3.out (by omega) 15 (.int .i64 tl))
    have hL4 := hidS (below_at (k := 15) (b := gF) (v := .int .i64 tl) hL3.out (by omega))
    clear hL3 hGF3 hGP3 hGT3 hGR3
    generalize (w3.setCell ⟨gF, 15, none⟩ (.int .i64 tl)) = w4 at hGP4 hGT4 hGR4 hGF4 hL4 ⊢
    refine plain_into 2 _ [.is (.agg #[.int .i64 (ofP p).proto, .int .i64 (ofP p).src, .int .i64 (ofP p).sport, .int .i64 (ofP p).dst, .int .i64 (ofP p).dport, .int .i64 (ofP p).kind, .int .i64 (invT g).proto, .int .i64 (invT g).src, .int .i64 (invT g).sport, .int .i64 (invT g).dst, .int .i64 (invT g).dport, .int .i64 (invT g).kind, .int .i64 s, .bool false, .bool false, .int .i64 tl, .int .i64 1]), .is (.agg #[.int .i64 (ofP p).proto, .int .i64 (ofP p).src, .int .i64 (ofP p).sport, .int .i64 (ofP p).dst, .int .i64 (ofP p).dport, .int .i64 (ofP p).kind, .int .i64 (invT g).proto, .int .i64 (invT g).src, .int .i64 (invT g).sport, .int .i64 (invT g).dst, .int .i64 (invT g).dport, .int .i64 (invT g).kind, .int .i64 s, .bool false, .bool false, .int .i64 tl, .int .i64 1, .int .i64 0])] 1 6 39 36 36 (w.heap.size + 2) #[.int .i64 0, .int .i64 0, .int .i64 0, .int .i64 0, .int .i64 0, .int .i64 0, .int .i64 0, .int .i64 0, .int .i64 0, .int .i64 0, .int .i64 0, .int .i64 0, .int .i64 0, .bool false, .bool false, .int .i64 0, .int .i64 0, .int .i64 0] #[.int .i64 (ofP p).proto, .int .i64 (ofP p).src, .int .i64 (ofP p).sport, .int .i64 (ofP p).dst, .int .i64 (ofP p).dport, .int .i64 (ofP p).kind, .int .i64 (invT g).proto, .int .i64 (invT g).src, .int .i64 (invT g).sport, .int .i64 (invT g).dst, .int .i64 (invT g).dport, .int .i64 (invT g).kind, .int .i64 s, .bool false, .bool false, .int .i64 tl, .int .i64 1, .int .i64 0] rfl rfl rfl (by kernel_rfl) (by kernel_rfl) (by kernel_rfl) rfl rfl (by decide) (by kernel_rfl) (by kernel_rfl) (by decide) hGR4.out (by kernel_rfl) (by kernel_rfl) (by first | kernel_rfl | simp [Value.oneCell']) (by kernel_rfl) ?stepsY_4 ?finY_4
    case stepsY_4 =>
      refine ⟨?_, ?_, trivial⟩
      · refine ⟨rfl, fun v W ρ hC kc kf ks ki kd => ?_⟩
        have t7 : ρ (.tmp 7) = .pointer (some ⟨gF, 0, none⟩) := ki 7 (by decide)
        simp only [execOp, t7, Sem.run_bind, loadAt_part (o := 0) [.int .i64 (ofP p).proto, .int .i64 (ofP p).src, .int .i64 (ofP p).sport, .int .i64 (ofP p).dst, .int .i64 (ofP p).dport, .int .i64 (ofP p).kind, .int .i64 (invT g).proto, .int .i64 (invT g).src, .int .i64 (invT g).sport, .int .i64 (invT g).dst, .int .i64 (invT g).dport, .int .i64 (invT g).kind, .int .i64 s, .bool false, .bool false, .int .i64 tl, .int .i64 1] (blk_later hGF4.out hC) rfl Try.underlying29 rfl (by kernel_rfl), Result.andThen_ok, Sem.run_pure]
        exact ⟨hC, Below.refl _ _, rfl⟩
      · refine ⟨rfl, fun v W ρ hC kc kf ks ki kd => ?_⟩
        have d0 : v 0 = .agg #[.int .i64 (ofP p).proto, .int .i64 (ofP p).src, .int .i64 (ofP p).sport, .int .i64 (ofP p).dst, .int .i64 (ofP p).dport, .int .i64 (ofP p).kind, .int .i64 (invT g).proto, .int .i64 (invT g).src, .int .i64 (invT g).sport, .int .i64 (invT g).dst, .int .i64 (invT g).dport, .int .i64 (invT g).kind, .int .i64 s, .bool false, .bool false, .int .i64 tl, .int .i64 1] := by first | exact kd _ (mem0 rfl) rfl | exact kd _ (mem1 rfl) rfl | exact kd _ (mem2 rfl) rfl | exact kd _ (mem3 rfl) rfl | exact kd _ (mem4 rfl) rfl | exact kd _ (mem5 rfl) rfl | exact kd _ (Array.mem_of_getElem? (i := 6) rfl) rfl | exact kd _ (Array.mem_of_getElem? (i := 7) rfl) rfl
        have t38 : ρ (.tmp 38) = .agg #[.int .i64 (ofP p).proto, .int .i64 (ofP p).src, .int .i64 (ofP p).sport, .int .i64 (ofP p).dst, .int .i64 (ofP p).dport, .int .i64 (ofP p).kind, .int .i64 (invT g).proto, .int .i64 (invT g).src, .int .i64 (invT g).sport, .int .i64 (invT g).dst, .int .i64 (invT g).dport, .int .i64 (invT g).kind, .int .i64 s, .bool false, .bool false, .int .i64 tl, .int .i64 1] := (ks 0 38 (by decide) rfl).trans d0
        simp [execOp, go_sem, kc, t38]
        exact ⟨hC, Below.refl _ _, rfl⟩
    intro vY_4 WY_4 hBY_4 hgY_4 hall
    simp [upto, Act.put]
    clear hall
    have hEY_4 := hidS (hL4.out.trans (hBY_4 w.heap.size (by omega)))
    have hcY_4 := loadVar_blk (P := Try.prog) hgY_4 Try.underlying36 rfl (by kernel_rfl)
    clear hBY_4 hgY_4 hL4 hGP4 hGT4 hGR4 hGF4
    go_wp2_with fail
    exact bodyPost_ret (v := .agg #[.int .i64 (ofP p).proto, .int .i64 (ofP p).src, .int .i64 (ofP p).sport, .int .i64 (ofP p).dst, .int .i64 (ofP p).dport, .int .i64 (ofP p).kind, .int .i64 (invT g).proto, .int .i64 (invT g).src, .int .i64 (invT g).sport, .int .i64 (invT g).dst, .int .i64 (invT g).dport, .int .i64 (invT g).kind, .int .i64 s, .bool false, .bool false, .int .i64 tl, .int .i64 1, .int .i64 0]) (results_cell Try.results24 rfl hcY_4) rfl ⟨by rw [EF.out, EC.out] ; first | done | rfl, hEY_4.out⟩
  have p6 : (p.proto == 6) = false := beq_eq_false_iff_ne.2 h6
  have hT := hidS (toZ_no (s := 0) (b := false) (f := p.flags) h6)
  clear HC HD6 HT6 HS HN
  by_cases h1 : p.proto = 1
  · have p1 : (p.proto == 1) = true := beq_iff_eq.2 h1
    by_cases hk : p.kind = 0
    · have k0 : (p.kind == 0) = true := beq_iff_eq.2 hk
      have E := hidS (codeN_reply (p := p) h1 hk)
      have EF := hidS (flowN_no (p := p) g now E.out)
      clear h1 h6 hk
      have cP0 := blk_cell hGP1.out 0
      have cP1 := blk_cell hGP1.out 1
      have cP2 := blk_cell hGP1.out 2
      have cP3 := blk_cell hGP1.out 3
      have cP4 := blk_cell hGP1.out 4
      have cP5 := blk_cell hGP1.out 5
      have cP6 := blk_cell hGP1.out 6
      have cP7 := blk_cell hGP1.out 7
      have cP8 := blk_cell hGP1.out 8
      have cP9 := blk_cell hGP1.out 9
      simp at cP0 cP1 cP2 cP3 cP4 cP5 cP6 cP7 cP8 cP9
      go_upto_region 7 with fail
      clear cP0 cP1 cP2 cP3 cP4 cP5 cP6 cP7 cP8 cP9
      refine plain_into 1 _ [.is (.agg #[.int .i64 0, .int .i64 0, .int .i64 0, .int .i64 0, .int .i64 0, .int .i64 0, .int .i64 0, .int .i64 0, .int .i64 0, .int .i64 0, .int .i64 0, .int .i64 0, .int .i64 0, .bool false, .bool false, .int .i64 0, .int .i64 0, .int .i64 10])] 0 6 33 36 36 (w.heap.size + 2) #[.int .i64 0, .int .i64 0, .int .i64 0, .int .i64 0, .int .i64 0, .int .i64 0, .int .i64 0, .int .i64 0, .int .i64 0, .int .i64 0, .int .i64 0, .int .i64 0, .int .i64 0, .bool false, .bool false, .int .i64 0, .int .i64 0, .int .i64 0] #[.int .i64 0, .int .i64 0, .int .i64 0, .int .i64 0, .int .i64 0, .int .i64 0, .int .i64 0, .int .i64 0, .int .i64 0, .int .i64 0, .int .i64 0, .int .i64 0, .int .i64 0, .bool false, .bool false, .int .i64 0, .int .i64 0, .int .i64 10] rfl rfl rfl (by kernel_rfl) (by kernel_rfl) (by kernel_rfl) rfl rfl (by decide) (by kernel_rfl) (by kernel_rfl) (by decide) hGR1.out (by kernel_rfl) (by kernel_rfl) (by first | kernel_rfl | simp [Value.oneCell']) (by kernel_rfl) ?stepsZ7_5 ?finZ7_5
      case stepsZ7_5 =>
        refine ⟨?_, trivial⟩
        · refine ⟨rfl, fun v W ρ hC kc kf ks ki kd => ?_⟩
          simp [execOp, go_sem, kc, kf]
          exact Calls.mono (HIL.out W) (fun e x h => ⟨_, h.1, hC.trans (h.2.mono hC.size), h.2, rfl⟩)
      intro vZ7_5 WZ7_5 hBZ7_5 hgZ7_5 hall
      simp [upto, Act.put]
      clear hall
      have hEZ7_5 := hidS (hL1.out.trans (hBZ7_5 w.heap.size (by omega)))
      have hcZ7_5 := loadVar_blk (P := Try.prog) hgZ7_5 Try.underlying36 rfl (by kernel_rfl)
      clear hBZ7_5 hgZ7_5 hL1 hGP1 hGT1 hGR1 hGF1
      go_wp2_with fail
      exact bodyPost_ret (v := .agg #[.int .i64 0, .int .i64 0, .int .i64 0, .int .i64 0, .int .i64 0, .int .i64 0, .int .i64 0, .int .i64 0, .int .i64 0, .int .i64 0, .int .i64 0, .int .i64 0, .int .i64 0, .bool false, .bool false, .int .i64 0, .int .i64 0, .int .i64 10]) (results_cell Try.results24 rfl hcZ7_5) rfl ⟨by rw [EF.out, E.out]; rfl, hEZ7_5.out⟩
    have k0 : (p.kind == 0) = false := beq_eq_false_iff_ne.2 hk
    have EC := hidS (codeN_ok1 (p := p) h1 hk)
    have EF := hidS (HY.out 0 EC.out hT.out)
    clear h1 h6 hk HY hT
    have cP0 := blk_cell hGP1.out 0
    have cP1 := blk_cell hGP1.out 1
    have cP2 := blk_cell hGP1.out 2
    have cP3 := blk_cell hGP1.out 3
    have cP4 := blk_cell hGP1.out 4
    have cP5 := blk_cell hGP1.out 5
    have cP6 := blk_cell hGP1.out 6
    have cP7 := blk_cell hGP1.out 7
    have cP8 := blk_cell hGP1.out 8
    have cP9 := blk_cell hGP1.out 9
    simp at cP0 cP1 cP2 cP3 cP4 cP5 cP6 cP7 cP8 cP9
    go_upto_region 8 with fail
    clear cP0 cP1 cP2 cP3 cP4 cP5 cP6 cP7 cP8 cP9
    go_wp2_with (first | refine wpList_load_blk 29 (.tmp 7) rfl rfl rfl hGF1.out Try.underlying29 rfl (by kernel_rfl) ?_)
    refine (HT.out ⟨ofP p, invT g, 0, false, false, 0, 1⟩ _).mono ?_
    rintro _ w2 ⟨rfl, hb2⟩
    have hGP2 := hidS (blk_later hGP1.out hb2)
    have hGT2 := hidS (blk_later hGT1.out hb2)
    have hGR2 := hidS (blk_later hGR1.out hb2)
    have hGF2 := hidS (blk_later hGF1.out hb2)
    have hL2 := hidS (hL1.out.trans (hb2.mono hL1.out.size))
    clear hb2 hL1 hGP1 hGT1 hGR1 hGF1
    generalize hTL : tillF ⟨ofP p, invT g, 0, false, false, 0, 1⟩ now = tl at *
    have kF := blk_cell hGF2.out
    have fF := blk_free hGF2.out
    go_upto_region 9 with fail
    clear kF fF
    have hGF3 : Hid ((w2.setCell ⟨gF, 15, none⟩ (.int .i64 tl)).heap[gF]? = some (.cells #[.int .i64 (ofP p).proto, .int .i64 (ofP p).src, .int .i64 (ofP p).sport, .int .i64 (ofP p).dst, .int .i64 (ofP p).dport, .int .i64 (ofP p).kind, .int .i64 (invT g).proto, .int .i64 (invT g).src, .int .i64 (invT g).sport, .int .i64 (invT g).dst, .int .i64 (invT g).dport, .int .i64 (invT g).kind, .int .i64 0, .bool false, .bool false, .int .i64 tl, .int .i64 1] 29)) := by
      have := (blk_set hGF2.out 15 (.int .i64 tl))
      exact this
    have hGP3 := hidS (blk_other (B := gF) hGP2.out (by omega) 15 (.int .i64 tl))
    have hGT3 := hidS (blk_other (B := gF) hGT2.out (by omega) 15 (.int .i64 tl))
    have hGR3 := hidS (blk_other (B := gF) hGR2.out (by omega) 15 (.int .i64 tl))
    have hL3 := hidS (below_at (k := 15) (b := gF) (v := .int .i64 tl) hL2.out (by omega))
    clear hL2 hGF2 hGP2 hGT2 hGR2
    generalize (w2.setCell ⟨gF, 15, none⟩ (.int .i64 tl)) = w3 at hGP3 hGT3 hGR3 hGF3 hL3 ⊢
    refine plain_into 2 _ [.is (.agg #[.int .i64 (ofP p).proto, .int .i64 (ofP p).src, .int .i64 (ofP p).sport, .int .i64 (ofP p).dst, .int .i64 (ofP p).dport, .int .i64 (ofP p).kind, .int .i64 (invT g).proto, .int .i64 (invT g).src, .int .i64 (invT g).sport, .int .i64 (invT g).dst, .int .i64 (invT g).dport, .int .i64 (invT g).kind, .int .i64 0, .bool false, .bool false, .int .i64 tl, .int .i64 1]), .is (.agg #[.int .i64 (ofP p).proto, .int .i64 (ofP p).src, .int .i64 (ofP p).sport, .int .i64 (ofP p).dst, .int .i64 (ofP p).dport, .int .i64 (ofP p).kind, .int .i64 (invT g).proto, .int .i64 (invT g).src, .int .i64 (invT g).sport, .int .i64 (invT g).dst, .int .i64 (invT g).dport, .int .i64 (invT g).kind, .int .i64 0, .bool false, .bool false, .int .i64 tl, .int .i64 1, .int .i64 0])] 1 6 39 36 36 (w.heap.size + 2) #[.int .i64 0, .int .i64 0, .int .i64 0, .int .i64 0, .int .i64 0, .int .i64 0, .int .i64 0, .int .i64 0, .int .i64 0, .int .i64 0, .int .i64 0, .int .i64 0, .int .i64 0, .bool false, .bool false, .int .i64 0, .int .i64 0, .int .i64 0] #[.int .i64 (ofP p).proto, .int .i64 (ofP p).src, .int .i64 (ofP p).sport, .int .i64 (ofP p).dst, .int .i64 (ofP p).dport, .int .i64 (ofP p).kind, .int .i64 (invT g).proto, .int .i64 (invT g).src, .int .i64 (invT g).sport, .int .i64 (invT g).dst, .int .i64 (invT g).dport, .int .i64 (invT g).kind, .int .i64 0, .bool false, .bool false, .int .i64 tl, .int .i64 1, .int .i64 0] rfl rfl rfl (by kernel_rfl) (by kernel_rfl) (by kernel_rfl) rfl rfl (by decide) (by kernel_rfl) (by kernel_rfl) (by decide) hGR3.out (by kernel_rfl) (by kernel_rfl) (by first | kernel_rfl | simp [Value.oneCell']) (by kernel_rfl) ?stepsY_6 ?finY_6
    case stepsY_6 =>
      refine ⟨?_, ?_, trivial⟩
      · refine ⟨rfl, fun v W ρ hC kc kf ks ki kd => ?_⟩
        have t7 : ρ (.tmp 7) = .pointer (some ⟨gF, 0, none⟩) := ki 7 (by decide)
        simp only [execOp, t7, Sem.run_bind, loadAt_part (o := 0) [.int .i64 (ofP p).proto, .int .i64 (ofP p).src, .int .i64 (ofP p).sport, .int .i64 (ofP p).dst, .int .i64 (ofP p).dport, .int .i64 (ofP p).kind, .int .i64 (invT g).proto, .int .i64 (invT g).src, .int .i64 (invT g).sport, .int .i64 (invT g).dst, .int .i64 (invT g).dport, .int .i64 (invT g).kind, .int .i64 0, .bool false, .bool false, .int .i64 tl, .int .i64 1] (blk_later hGF3.out hC) rfl Try.underlying29 rfl (by kernel_rfl), Result.andThen_ok, Sem.run_pure]
        exact ⟨hC, Below.refl _ _, rfl⟩
      · refine ⟨rfl, fun v W ρ hC kc kf ks ki kd => ?_⟩
        have d0 : v 0 = .agg #[.int .i64 (ofP p).proto, .int .i64 (ofP p).src, .int .i64 (ofP p).sport, .int .i64 (ofP p).dst, .int .i64 (ofP p).dport, .int .i64 (ofP p).kind, .int .i64 (invT g).proto, .int .i64 (invT g).src, .int .i64 (invT g).sport, .int .i64 (invT g).dst, .int .i64 (invT g).dport, .int .i64 (invT g).kind, .int .i64 0, .bool false, .bool false, .int .i64 tl, .int .i64 1] := by first | exact kd _ (mem0 rfl) rfl | exact kd _ (mem1 rfl) rfl | exact kd _ (mem2 rfl) rfl | exact kd _ (mem3 rfl) rfl | exact kd _ (mem4 rfl) rfl | exact kd _ (mem5 rfl) rfl | exact kd _ (Array.mem_of_getElem? (i := 6) rfl) rfl | exact kd _ (Array.mem_of_getElem? (i := 7) rfl) rfl
        have t38 : ρ (.tmp 38) = .agg #[.int .i64 (ofP p).proto, .int .i64 (ofP p).src, .int .i64 (ofP p).sport, .int .i64 (ofP p).dst, .int .i64 (ofP p).dport, .int .i64 (ofP p).kind, .int .i64 (invT g).proto, .int .i64 (invT g).src, .int .i64 (invT g).sport, .int .i64 (invT g).dst, .int .i64 (invT g).dport, .int .i64 (invT g).kind, .int .i64 0, .bool false, .bool false, .int .i64 tl, .int .i64 1] := (ks 0 38 (by decide) rfl).trans d0
        simp [execOp, go_sem, kc, t38]
        exact ⟨hC, Below.refl _ _, rfl⟩
    intro vY_6 WY_6 hBY_6 hgY_6 hall
    simp [upto, Act.put]
    clear hall
    have hEY_6 := hidS (hL3.out.trans (hBY_6 w.heap.size (by omega)))
    have hcY_6 := loadVar_blk (P := Try.prog) hgY_6 Try.underlying36 rfl (by kernel_rfl)
    clear hBY_6 hgY_6 hL3 hGP3 hGT3 hGR3 hGF3
    go_wp2_with fail
    exact bodyPost_ret (v := .agg #[.int .i64 (ofP p).proto, .int .i64 (ofP p).src, .int .i64 (ofP p).sport, .int .i64 (ofP p).dst, .int .i64 (ofP p).dport, .int .i64 (ofP p).kind, .int .i64 (invT g).proto, .int .i64 (invT g).src, .int .i64 (invT g).sport, .int .i64 (invT g).dst, .int .i64 (invT g).dport, .int .i64 (invT g).kind, .int .i64 0, .bool false, .bool false, .int .i64 tl, .int .i64 1, .int .i64 0]) (results_cell Try.results24 rfl hcY_6) rfl ⟨by rw [EF.out, EC.out] ; first | done | rfl, hEY_6.out⟩
  have p1 : (p.proto == 1) = false := beq_eq_false_iff_ne.2 h1
  have EC := hidS (codeN_ok (p := p) h6 h1)
  have EF := hidS (HY.out 0 EC.out hT.out)
  clear h1 h6 HY hT
  have cP0 := blk_cell hGP1.out 0
  have cP1 := blk_cell hGP1.out 1
  have cP2 := blk_cell hGP1.out 2
  have cP3 := blk_cell hGP1.out 3
  have cP4 := blk_cell hGP1.out 4
  have cP5 := blk_cell hGP1.out 5
  have cP6 := blk_cell hGP1.out 6
  have cP7 := blk_cell hGP1.out 7
  have cP8 := blk_cell hGP1.out 8
  have cP9 := blk_cell hGP1.out 9
  simp at cP0 cP1 cP2 cP3 cP4 cP5 cP6 cP7 cP8 cP9
  go_upto_region 8 with fail
  clear cP0 cP1 cP2 cP3 cP4 cP5 cP6 cP7 cP8 cP9
  go_wp2_with (first | refine wpList_load_blk 29 (.tmp 7) rfl rfl rfl hGF1.out Try.underlying29 rfl (by kernel_rfl) ?_)
  refine (HT.out ⟨ofP p, invT g, 0, false, false, 0, 1⟩ _).mono ?_
  rintro _ w2 ⟨rfl, hb2⟩
  have hGP2 := hidS (blk_later hGP1.out hb2)
  have hGT2 := hidS (blk_later hGT1.out hb2)
  have hGR2 := hidS (blk_later hGR1.out hb2)
  have hGF2 := hidS (blk_later hGF1.out hb2)
  have hL2 := hidS (hL1.out.trans (hb2.mono hL1.out.size))
  clear hb2 hL1 hGP1 hGT1 hGR1 hGF1
  generalize hTL : tillF ⟨ofP p, invT g, 0, false, false, 0, 1⟩ now = tl at *
  have kF := blk_cell hGF2.out
  have fF := blk_free hGF2.out
  go_upto_region 9 with fail
  clear kF fF
  have hGF3 : Hid ((w2.setCell ⟨gF, 15, none⟩ (.int .i64 tl)).heap[gF]? = some (.cells #[.int .i64 (ofP p).proto, .int .i64 (ofP p).src, .int .i64 (ofP p).sport, .int .i64 (ofP p).dst, .int .i64 (ofP p).dport, .int .i64 (ofP p).kind, .int .i64 (invT g).proto, .int .i64 (invT g).src, .int .i64 (invT g).sport, .int .i64 (invT g).dst, .int .i64 (invT g).dport, .int .i64 (invT g).kind, .int .i64 0, .bool false, .bool false, .int .i64 tl, .int .i64 1] 29)) := by
    have := (blk_set hGF2.out 15 (.int .i64 tl))
    exact this
  have hGP3 := hidS (blk_other (B := gF) hGP2.out (by omega) 15 (.int .i64 tl))
  have hGT3 := hidS (blk_other (B := gF) hGT2.out (by omega) 15 (.int .i64 tl))
  have hGR3 := hidS (blk_other (B := gF) hGR2.out (by omega) 15 (.int .i64 tl))
  have hL3 := hidS (below_at (k := 15) (b := gF) (v := .int .i64 tl) hL2.out (by omega))
  clear hL2 hGF2 hGP2 hGT2 hGR2
  generalize (w2.setCell ⟨gF, 15, none⟩ (.int .i64 tl)) = w3 at hGP3 hGT3 hGR3 hGF3 hL3 ⊢
  refine plain_into 2 _ [.is (.agg #[.int .i64 (ofP p).proto, .int .i64 (ofP p).src, .int .i64 (ofP p).sport, .int .i64 (ofP p).dst, .int .i64 (ofP p).dport, .int .i64 (ofP p).kind, .int .i64 (invT g).proto, .int .i64 (invT g).src, .int .i64 (invT g).sport, .int .i64 (invT g).dst, .int .i64 (invT g).dport, .int .i64 (invT g).kind, .int .i64 0, .bool false, .bool false, .int .i64 tl, .int .i64 1]), .is (.agg #[.int .i64 (ofP p).proto, .int .i64 (ofP p).src, .int .i64 (ofP p).sport, .int .i64 (ofP p).dst, .int .i64 (ofP p).dport, .int .i64 (ofP p).kind, .int .i64 (invT g).proto, .int .i64 (invT g).src, .int .i64 (invT g).sport, .int .i64 (invT g).dst, .int .i64 (invT g).dport, .int .i64 (invT g).kind, .int .i64 0, .bool false, .bool false, .int .i64 tl, .int .i64 1, .int .i64 0])] 1 6 39 36 36 (w.heap.size + 2) #[.int .i64 0, .int .i64 0, .int .i64 0, .int .i64 0, .int .i64 0, .int .i64 0, .int .i64 0, .int .i64 0, .int .i64 0, .int .i64 0, .int .i64 0, .int .i64 0, .int .i64 0, .bool false, .bool false, .int .i64 0, .int .i64 0, .int .i64 0] #[.int .i64 (ofP p).proto, .int .i64 (ofP p).src, .int .i64 (ofP p).sport, .int .i64 (ofP p).dst, .int .i64 (ofP p).dport, .int .i64 (ofP p).kind, .int .i64 (invT g).proto, .int .i64 (invT g).src, .int .i64 (invT g).sport, .int .i64 (invT g).dst, .int .i64 (invT g).dport, .int .i64 (invT g).kind, .int .i64 0, .bool false, .bool false, .int .i64 tl, .int .i64 1, .int .i64 0] rfl rfl rfl (by kernel_rfl) (by kernel_rfl) (by kernel_rfl) rfl rfl (by decide) (by kernel_rfl) (by kernel_rfl) (by decide) hGR3.out (by kernel_rfl) (by kernel_rfl) (by first | kernel_rfl | simp [Value.oneCell']) (by kernel_rfl) ?stepsY_7 ?finY_7
  case stepsY_7 =>
    refine ⟨?_, ?_, trivial⟩
    · refine ⟨rfl, fun v W ρ hC kc kf ks ki kd => ?_⟩
      have t7 : ρ (.tmp 7) = .pointer (some ⟨gF, 0, none⟩) := ki 7 (by decide)
      simp only [execOp, t7, Sem.run_bind, loadAt_part (o := 0) [.int .i64 (ofP p).proto, .int .i64 (ofP p).src, .int .i64 (ofP p).sport, .int .i64 (ofP p).dst, .int .i64 (ofP p).dport, .int .i64 (ofP p).kind, .int .i64 (invT g).proto, .int .i64 (invT g).src, .int .i64 (invT g).sport, .int .i64 (invT g).dst, .int .i64 (invT g).dport, .int .i64 (invT g).kind, .int .i64 0, .bool false, .bool false, .int .i64 tl, .int .i64 1] (blk_later hGF3.out hC) rfl Try.underlying29 rfl (by kernel_rfl), Result.andThen_ok, Sem.run_pure]
      exact ⟨hC, Below.refl _ _, rfl⟩
    · refine ⟨rfl, fun v W ρ hC kc kf ks ki kd => ?_⟩
      have d0 : v 0 = .agg #[.int .i64 (ofP p).proto, .int .i64 (ofP p).src, .int .i64 (ofP p).sport, .int .i64 (ofP p).dst, .int .i64 (ofP p).dport, .int .i64 (ofP p).kind, .int .i64 (invT g).proto, .int .i64 (invT g).src, .int .i64 (invT g).sport, .int .i64 (invT g).dst, .int .i64 (invT g).dport, .int .i64 (invT g).kind, .int .i64 0, .bool false, .bool false, .int .i64 tl, .int .i64 1] := by first | exact kd _ (mem0 rfl) rfl | exact kd _ (mem1 rfl) rfl | exact kd _ (mem2 rfl) rfl | exact kd _ (mem3 rfl) rfl | exact kd _ (mem4 rfl) rfl | exact kd _ (mem5 rfl) rfl | exact kd _ (Array.mem_of_getElem? (i := 6) rfl) rfl | exact kd _ (Array.mem_of_getElem? (i := 7) rfl) rfl
      have t38 : ρ (.tmp 38) = .agg #[.int .i64 (ofP p).proto, .int .i64 (ofP p).src, .int .i64 (ofP p).sport, .int .i64 (ofP p).dst, .int .i64 (ofP p).dport, .int .i64 (ofP p).kind, .int .i64 (invT g).proto, .int .i64 (invT g).src, .int .i64 (invT g).sport, .int .i64 (invT g).dst, .int .i64 (invT g).dport, .int .i64 (invT g).kind, .int .i64 0, .bool false, .bool false, .int .i64 tl, .int .i64 1] := (ks 0 38 (by decide) rfl).trans d0
      simp [execOp, go_sem, kc, t38]
      exact ⟨hC, Below.refl _ _, rfl⟩
  intro vY_7 WY_7 hBY_7 hgY_7 hall
  simp [upto, Act.put]
  clear hall
  have hEY_7 := hidS (hL3.out.trans (hBY_7 w.heap.size (by omega)))
  have hcY_7 := loadVar_blk (P := Try.prog) hgY_7 Try.underlying36 rfl (by kernel_rfl)
  clear hBY_7 hgY_7 hL3 hGP3 hGT3 hGR3 hGF3
  go_wp2_with fail
  exact bodyPost_ret (v := .agg #[.int .i64 (ofP p).proto, .int .i64 (ofP p).src, .int .i64 (ofP p).sport, .int .i64 (ofP p).dst, .int .i64 (ofP p).dport, .int .i64 (ofP p).kind, .int .i64 (invT g).proto, .int .i64 (invT g).src, .int .i64 (invT g).sport, .int .i64 (invT g).dst, .int .i64 (invT g).dport, .int .i64 (invT g).kind, .int .i64 0, .bool false, .bool false, .int .i64 tl, .int .i64 1, .int .i64 0]) (results_cell Try.results24 rfl hcY_7) rfl ⟨by rw [EF.out, EC.out] ; first | done | rfl, hEY_7.out⟩
set_option maxHeartbeats 8000000 in
theorem specFN_any (p : Pk) (g : Tp) (now : Int) (w : World) (hs : p.body.size ≤ maxLen) :
    Calls Try.prog 10 #[.agg #[.int .i64 p.src, .int .i64 p.dst, .int .i64 p.proto, .int .i64 p.a, .int .i64 p.b, .int .i64 p.kind, .int .i64 p.flags, .int .i64 p.seq, .int .i64 p.ack, .string p.body], .agg #[.int .i64 g.proto, .int .i64 g.src, .int .i64 g.sport, .int .i64 g.dst, .int .i64 g.dport, .int .i64 g.kind], .int .i64 now] w fun e w' => e = .returned (.agg #[.int .i64 (newA p g now).orig.proto, .int .i64 (newA p g now).orig.src, .int .i64 (newA p g now).orig.sport, .int .i64 (newA p g now).orig.dst, .int .i64 (newA p g now).orig.dport, .int .i64 (newA p g now).orig.kind, .int .i64 (newA p g now).back.proto, .int .i64 (newA p g now).back.src, .int .i64 (newA p g now).back.sport, .int .i64 (newA p g now).back.dst, .int .i64 (newA p g now).back.dport, .int .i64 (newA p g now).back.kind, .int .i64 (newA p g now).state, .bool (newA p g now).seen, .bool (newA p g now).sure, .int .i64 (newA p g now).till, .int .i64 (newA p g now).count, .int .i64 (newC p g now)]) ∧ Below w.heap.size w w' := by
  have EB : Hid (newB p g now = (packB p && rightT g && g.proto == p.proto && g.kind == p.kind && tmB now)) := rfl
  have HP := hidS (fun W => l09Packet_any p W hs)
  have HT := hidS (fun W => specTRight_any g W)
  have HM := hidS (fun W => l02Tm_any now W)
  have HI1 := hidS (fun W => l09Ill_any 1 W)
  have HN := hidS (fun hg h0 W => l09New_any p g now W hg h0)
  clear hs
  have hGP0 : Hid ((((w.alloc (.cells #[.int .i64 p.src, .int .i64 p.dst, .int .i64 p.proto, .int .i64 p.a, .int .i64 p.b, .int .i64 p.kind, .int .i64 p.flags, .int .i64 p.seq, .int .i64 p.ack, .string p.body] 38)).alloc (.cells #[.int .i64 g.proto, .int .i64 g.src, .int .i64 g.sport, .int .i64 g.dst, .int .i64 g.dport, .int .i64 g.kind] 27)).alloc (.cells #[.int .i64 0, .int .i64 0, .int .i64 0, .int .i64 0, .int .i64 0, .int .i64 0, .int .i64 0, .int .i64 0, .int .i64 0, .int .i64 0, .int .i64 0, .int .i64 0, .int .i64 0, .bool false, .bool false, .int .i64 0, .int .i64 0, .int .i64 0] 36)).heap[w.heap.size]? = some (.cells #[.int .i64 p.src, .int .i64 p.dst, .int .i64 p.proto, .int .i64 p.a, .int .i64 p.b, .int .i64 p.kind, .int .i64 p.flags, .int .i64 p.seq, .int .i64 p.ack, .string p.body] 38)) := by
    show _ = _
    have := blk_alloc (blk_alloc (heap_newG w (.cells #[.int .i64 p.src, .int .i64 p.dst, .int .i64 p.proto, .int .i64 p.a, .int .i64 p.b, .int .i64 p.kind, .int .i64 p.flags, .int .i64 p.seq, .int .i64 p.ack, .string p.body] 38)) (.cells #[.int .i64 g.proto, .int .i64 g.src, .int .i64 g.sport, .int .i64 g.dst, .int .i64 g.dport, .int .i64 g.kind] 27)) (.cells #[.int .i64 0, .int .i64 0, .int .i64 0, .int .i64 0, .int .i64 0, .int .i64 0, .int .i64 0, .int .i64 0, .int .i64 0, .int .i64 0, .int .i64 0, .int .i64 0, .int .i64 0, .bool false, .bool false, .int .i64 0, .int .i64 0, .int .i64 0] 36)
    simpa using this
  have hGT0 : Hid ((((w.alloc (.cells #[.int .i64 p.src, .int .i64 p.dst, .int .i64 p.proto, .int .i64 p.a, .int .i64 p.b, .int .i64 p.kind, .int .i64 p.flags, .int .i64 p.seq, .int .i64 p.ack, .string p.body] 38)).alloc (.cells #[.int .i64 g.proto, .int .i64 g.src, .int .i64 g.sport, .int .i64 g.dst, .int .i64 g.dport, .int .i64 g.kind] 27)).alloc (.cells #[.int .i64 0, .int .i64 0, .int .i64 0, .int .i64 0, .int .i64 0, .int .i64 0, .int .i64 0, .int .i64 0, .int .i64 0, .int .i64 0, .int .i64 0, .int .i64 0, .int .i64 0, .bool false, .bool false, .int .i64 0, .int .i64 0, .int .i64 0] 36)).heap[w.heap.size + 1]? = some (.cells #[.int .i64 g.proto, .int .i64 g.src, .int .i64 g.sport, .int .i64 g.dst, .int .i64 g.dport, .int .i64 g.kind] 27)) := by
    show _ = _
    have := blk_alloc (heap_newG (w.alloc (.cells #[.int .i64 p.src, .int .i64 p.dst, .int .i64 p.proto, .int .i64 p.a, .int .i64 p.b, .int .i64 p.kind, .int .i64 p.flags, .int .i64 p.seq, .int .i64 p.ack, .string p.body] 38)) (.cells #[.int .i64 g.proto, .int .i64 g.src, .int .i64 g.sport, .int .i64 g.dst, .int .i64 g.dport, .int .i64 g.kind] 27)) (.cells #[.int .i64 0, .int .i64 0, .int .i64 0, .int .i64 0, .int .i64 0, .int .i64 0, .int .i64 0, .int .i64 0, .int .i64 0, .int .i64 0, .int .i64 0, .int .i64 0, .int .i64 0, .bool false, .bool false, .int .i64 0, .int .i64 0, .int .i64 0] 36)
    simpa using this
  have hGR0 : Hid ((((w.alloc (.cells #[.int .i64 p.src, .int .i64 p.dst, .int .i64 p.proto, .int .i64 p.a, .int .i64 p.b, .int .i64 p.kind, .int .i64 p.flags, .int .i64 p.seq, .int .i64 p.ack, .string p.body] 38)).alloc (.cells #[.int .i64 g.proto, .int .i64 g.src, .int .i64 g.sport, .int .i64 g.dst, .int .i64 g.dport, .int .i64 g.kind] 27)).alloc (.cells #[.int .i64 0, .int .i64 0, .int .i64 0, .int .i64 0, .int .i64 0, .int .i64 0, .int .i64 0, .int .i64 0, .int .i64 0, .int .i64 0, .int .i64 0, .int .i64 0, .int .i64 0, .bool false, .bool false, .int .i64 0, .int .i64 0, .int .i64 0] 36)).heap[w.heap.size + 2]? = some (.cells #[.int .i64 0, .int .i64 0, .int .i64 0, .int .i64 0, .int .i64 0, .int .i64 0, .int .i64 0, .int .i64 0, .int .i64 0, .int .i64 0, .int .i64 0, .int .i64 0, .int .i64 0, .bool false, .bool false, .int .i64 0, .int .i64 0, .int .i64 0] 36)) := by
    show _ = _
    have := heap_newG ((w.alloc (.cells #[.int .i64 p.src, .int .i64 p.dst, .int .i64 p.proto, .int .i64 p.a, .int .i64 p.b, .int .i64 p.kind, .int .i64 p.flags, .int .i64 p.seq, .int .i64 p.ack, .string p.body] 38)).alloc (.cells #[.int .i64 g.proto, .int .i64 g.src, .int .i64 g.sport, .int .i64 g.dst, .int .i64 g.dport, .int .i64 g.kind] 27)) (.cells #[.int .i64 0, .int .i64 0, .int .i64 0, .int .i64 0, .int .i64 0, .int .i64 0, .int .i64 0, .int .i64 0, .int .i64 0, .int .i64 0, .int .i64 0, .int .i64 0, .int .i64 0, .bool false, .bool false, .int .i64 0, .int .i64 0, .int .i64 0] 36)
    simpa using this
  have hL0 := hidS ((((Below.refl w.heap.size w).alloc (Nat.le_refl _) (.cells #[.int .i64 p.src, .int .i64 p.dst, .int .i64 p.proto, .int .i64 p.a, .int .i64 p.b, .int .i64 p.kind, .int .i64 p.flags, .int .i64 p.seq, .int .i64 p.ack, .string p.body] 38)).alloc (by simp) (.cells #[.int .i64 g.proto, .int .i64 g.src, .int .i64 g.sport, .int .i64 g.dst, .int .i64 g.dport, .int .i64 g.kind] 27)).alloc (by simp; omega) (.cells #[.int .i64 0, .int .i64 0, .int .i64 0, .int .i64 0, .int .i64 0, .int .i64 0, .int .i64 0, .int .i64 0, .int .i64 0, .int .i64 0, .int .i64 0, .int .i64 0, .int .i64 0, .bool false, .bool false, .int .i64 0, .int .i64 0, .int .i64 0] 36))
  go_enter Try.func10, Try.ntmps10
  go_upto_region 1 with fail
  generalize (((w.alloc (.cells #[.int .i64 p.src, .int .i64 p.dst, .int .i64 p.proto, .int .i64 p.a, .int .i64 p.b, .int .i64 p.kind, .int .i64 p.flags, .int .i64 p.seq, .int .i64 p.ack, .string p.body] 38)).alloc (.cells #[.int .i64 g.proto, .int .i64 g.src, .int .i64 g.sport, .int .i64 g.dst, .int .i64 g.dport, .int .i64 g.kind] 27)).alloc (.cells #[.int .i64 0, .int .i64 0, .int .i64 0, .int .i64 0, .int .i64 0, .int .i64 0, .int .i64 0, .int .i64 0, .int .i64 0, .int .i64 0, .int .i64 0, .int .i64 0, .int .i64 0, .bool false, .bool false, .int .i64 0, .int .i64 0, .int .i64 0] 36)) = w0 at hGP0 hGT0 hGR0 hL0 ⊢
  have cP0 := blk_cell hGP0.out 0
  have cP1 := blk_cell hGP0.out 1
  have cP2 := blk_cell hGP0.out 2
  have cP3 := blk_cell hGP0.out 3
  have cP4 := blk_cell hGP0.out 4
  have cP5 := blk_cell hGP0.out 5
  have cP6 := blk_cell hGP0.out 6
  have cP7 := blk_cell hGP0.out 7
  have cP8 := blk_cell hGP0.out 8
  have cP9 := blk_cell hGP0.out 9
  simp at cP0 cP1 cP2 cP3 cP4 cP5 cP6 cP7 cP8 cP9
  go_wp2_with fail
  refine (HP.out _).mono ?_
  rintro _ w1 ⟨rfl, hb1⟩
  clear cP0 cP1 cP2 cP3 cP4 cP5 cP6 cP7 cP8 cP9
  have hGP1 := hidS (blk_later hGP0.out hb1)
  have hGT1 := hidS (blk_later hGT0.out hb1)
  have hGR1 := hidS (blk_later hGR0.out hb1)
  have hL1 := hidS (hL0.out.trans (hb1.mono hL0.out.size))
  clear hb1 hL0 hGP0 hGT0 hGR0
  cases h0 : packB p
  · have E0 : Hid (newB p g now = false) := by show _ = _; rw [EB.out, h0]; rfl
    have EA := hidS (newA_no E0.out)
    have EC := hidS (newC_no E0.out)
    go_upto_region 2 with fail
    refine plain_into 1 _ [.is (.agg #[.int .i64 0, .int .i64 0, .int .i64 0, .int .i64 0, .int .i64 0, .int .i64 0, .int .i64 0, .int .i64 0, .int .i64 0, .int .i64 0, .int .i64 0, .int .i64 0, .int .i64 0, .bool false, .bool false, .int .i64 0, .int .i64 0, .int .i64 1])] 0 6 34 36 36 (w.heap.size + 2) #[.int .i64 0, .int .i64 0, .int .i64 0, .int .i64 0, .int .i64 0, .int .i64 0, .int .i64 0, .int .i64 0, .int .i64 0, .int .i64 0, .int .i64 0, .int .i64 0, .int .i64 0, .bool false, .bool false, .int .i64 0, .int .i64 0, .int .i64 0] #[.int .i64 0, .int .i64 0, .int .i64 0, .int .i64 0, .int .i64 0, .int .i64 0, .int .i64 0, .int .i64 0, .int .i64 0, .int .i64 0, .int .i64 0, .int .i64 0, .int .i64 0, .bool false, .bool false, .int .i64 0, .int .i64 0, .int .i64 1] rfl rfl rfl (by kernel_rfl) (by kernel_rfl) (by kernel_rfl) rfl rfl (by decide) (by kernel_rfl) (by kernel_rfl) (by decide) hGR1.out (by kernel_rfl) (by kernel_rfl) (by first | kernel_rfl | simp [Value.oneCell']) (by kernel_rfl) ?stepsZ2_8 ?finZ2_8
    case stepsZ2_8 =>
      refine ⟨?_, trivial⟩
      · refine ⟨rfl, fun v W ρ hC kc kf ks ki kd => ?_⟩
        simp [execOp, go_sem, kc, kf]
        exact Calls.mono (HI1.out W) (fun e x h => ⟨_, h.1, hC.trans (h.2.mono hC.size), h.2, rfl⟩)
    intro vZ2_8 WZ2_8 hBZ2_8 hgZ2_8 hall
    simp [upto, Act.put]
    clear hall
    have hEZ2_8 := hidS (hL1.out.trans (hBZ2_8 w.heap.size (by omega)))
    have hcZ2_8 := loadVar_blk (P := Try.prog) hgZ2_8 Try.underlying36 rfl (by kernel_rfl)
    clear hBZ2_8 hgZ2_8 hL1 hGP1 hGT1 hGR1
    go_wp2_with fail
    exact bodyPost_ret (v := .agg #[.int .i64 0, .int .i64 0, .int .i64 0, .int .i64 0, .int .i64 0, .int .i64 0, .int .i64 0, .int .i64 0, .int .i64 0, .int .i64 0, .int .i64 0, .int .i64 0, .int .i64 0, .bool false, .bool false, .int .i64 0, .int .i64 0, .int .i64 1]) (results_cell Try.results10 rfl hcZ2_8) rfl ⟨by rw [EA.out, EC.out]; rfl, hEZ2_8.out⟩
  have cT0 := blk_cell hGT1.out 0
  have cT1 := blk_cell hGT1.out 1
  have cT2 := blk_cell hGT1.out 2
  have cT3 := blk_cell hGT1.out 3
  have cT4 := blk_cell hGT1.out 4
  have cT5 := blk_cell hGT1.out 5
  simp at cT0 cT1 cT2 cT3 cT4 cT5
  go_wp2_with fail
  refine (HT.out _).mono ?_
  rintro _ w2 ⟨rfl, hb2⟩
  clear cT0 cT1 cT2 cT3 cT4 cT5
  have hGP2 := hidS (blk_later hGP1.out hb2)
  have hGT2 := hidS (blk_later hGT1.out hb2)
  have hGR2 := hidS (blk_later hGR1.out hb2)
  have hL2 := hidS (hL1.out.trans (hb2.mono hL1.out.size))
  clear hb2 hL1 hGP1 hGT1 hGR1
  cases h1 : rightT g
  · have E0 : Hid (newB p g now = false) := by show _ = _; rw [EB.out, h0, h1]; rfl
    have EA := hidS (newA_no E0.out)
    have EC := hidS (newC_no E0.out)
    go_upto_region 2 with fail
    refine plain_into 1 _ [.is (.agg #[.int .i64 0, .int .i64 0, .int .i64 0, .int .i64 0, .int .i64 0, .int .i64 0, .int .i64 0, .int .i64 0, .int .i64 0, .int .i64 0, .int .i64 0, .int .i64 0, .int .i64 0, .bool false, .bool false, .int .i64 0, .int .i64 0, .int .i64 1])] 0 6 34 36 36 (w.heap.size + 2) #[.int .i64 0, .int .i64 0, .int .i64 0, .int .i64 0, .int .i64 0, .int .i64 0, .int .i64 0, .int .i64 0, .int .i64 0, .int .i64 0, .int .i64 0, .int .i64 0, .int .i64 0, .bool false, .bool false, .int .i64 0, .int .i64 0, .int .i64 0] #[.int .i64 0, .int .i64 0, .int .i64 0, .int .i64 0, .int .i64 0, .int .i64 0, .int .i64 0, .int .i64 0, .int .i64 0, .int .i64 0, .int .i64 0, .int .i64 0, .int .i64 0, .bool false, .bool false, .int .i64 0, .int .i64 0, .int .i64 1] rfl rfl rfl (by kernel_rfl) (by kernel_rfl) (by kernel_rfl) rfl rfl (by decide) (by kernel_rfl) (by kernel_rfl) (by decide) hGR2.out (by kernel_rfl) (by kernel_rfl) (by first | kernel_rfl | simp [Value.oneCell']) (by kernel_rfl) ?stepsZ2_9 ?finZ2_9
    case stepsZ2_9 =>
      refine ⟨?_, trivial⟩
      · refine ⟨rfl, fun v W ρ hC kc kf ks ki kd => ?_⟩
        simp [execOp, go_sem, kc, kf]
        exact Calls.mono (HI1.out W) (fun e x h => ⟨_, h.1, hC.trans (h.2.mono hC.size), h.2, rfl⟩)
    intro vZ2_9 WZ2_9 hBZ2_9 hgZ2_9 hall
    simp [upto, Act.put]
    clear hall
    have hEZ2_9 := hidS (hL2.out.trans (hBZ2_9 w.heap.size (by omega)))
    have hcZ2_9 := loadVar_blk (P := Try.prog) hgZ2_9 Try.underlying36 rfl (by kernel_rfl)
    clear hBZ2_9 hgZ2_9 hL2 hGP2 hGT2 hGR2
    go_wp2_with fail
    exact bodyPost_ret (v := .agg #[.int .i64 0, .int .i64 0, .int .i64 0, .int .i64 0, .int .i64 0, .int .i64 0, .int .i64 0, .int .i64 0, .int .i64 0, .int .i64 0, .int .i64 0, .int .i64 0, .int .i64 0, .bool false, .bool false, .int .i64 0, .int .i64 0, .int .i64 1]) (results_cell Try.results10 rfl hcZ2_9) rfl ⟨by rw [EA.out, EC.out]; rfl, hEZ2_9.out⟩
  have cP0 := blk_cell hGP2.out 0
  have cP1 := blk_cell hGP2.out 1
  have cP2 := blk_cell hGP2.out 2
  have cP3 := blk_cell hGP2.out 3
  have cP4 := blk_cell hGP2.out 4
  have cP5 := blk_cell hGP2.out 5
  have cP6 := blk_cell hGP2.out 6
  have cP7 := blk_cell hGP2.out 7
  have cP8 := blk_cell hGP2.out 8
  have cP9 := blk_cell hGP2.out 9
  simp at cP0 cP1 cP2 cP3 cP4 cP5 cP6 cP7 cP8 cP9
  have cT0 := blk_cell hGT2.out 0
  have cT1 := blk_cell hGT2.out 1
  have cT2 := blk_cell hGT2.out 2
  have cT3 := blk_cell hGT2.out 3
  have cT4 := blk_cell hGT2.out 4
  have cT5 := blk_cell hGT2.out 5
  simp at cT0 cT1 cT2 cT3 cT4 cT5
  cases h2 : (g.proto == p.proto)
  · have q2 : (g.proto != p.proto) = true := by unfold bne; rw [h2]; rfl
    have E0 : Hid (newB p g now = false) := by show _ = _; rw [EB.out, h0, h1, h2]; rfl
    have EA := hidS (newA_no E0.out)
    have EC := hidS (newC_no E0.out)
    go_upto_region 2 with fail
    clear cP0 cP1 cP2 cP3 cP4 cP5 cP6 cP7 cP8 cP9 cT0 cT1 cT2 cT3 cT4 cT5
    refine plain_into 1 _ [.is (.agg #[.int .i64 0, .int .i64 0, .int .i64 0, .int .i64 0, .int .i64 0, .int .i64 0, .int .i64 0, .int .i64 0, .int .i64 0, .int .i64 0, .int .i64 0, .int .i64 0, .int .i64 0, .bool false, .bool false, .int .i64 0, .int .i64 0, .int .i64 1])] 0 6 34 36 36 (w.heap.size + 2) #[.int .i64 0, .int .i64 0, .int .i64 0, .int .i64 0, .int .i64 0, .int .i64 0, .int .i64 0, .int .i64 0, .int .i64 0, .int .i64 0, .int .i64 0, .int .i64 0, .int .i64 0, .bool false, .bool false, .int .i64 0, .int .i64 0, .int .i64 0] #[.int .i64 0, .int .i64 0, .int .i64 0, .int .i64 0, .int .i64 0, .int .i64 0, .int .i64 0, .int .i64 0, .int .i64 0, .int .i64 0, .int .i64 0, .int .i64 0, .int .i64 0, .bool false, .bool false, .int .i64 0, .int .i64 0, .int .i64 1] rfl rfl rfl (by kernel_rfl) (by kernel_rfl) (by kernel_rfl) rfl rfl (by decide) (by kernel_rfl) (by kernel_rfl) (by decide) hGR2.out (by kernel_rfl) (by kernel_rfl) (by first | kernel_rfl | simp [Value.oneCell']) (by kernel_rfl) ?stepsZ2_10 ?finZ2_10
    case stepsZ2_10 =>
      refine ⟨?_, trivial⟩
      · refine ⟨rfl, fun v W ρ hC kc kf ks ki kd => ?_⟩
        simp [execOp, go_sem, kc, kf]
        exact Calls.mono (HI1.out W) (fun e x h => ⟨_, h.1, hC.trans (h.2.mono hC.size), h.2, rfl⟩)
    intro vZ2_10 WZ2_10 hBZ2_10 hgZ2_10 hall
    simp [upto, Act.put]
    clear hall
    have hEZ2_10 := hidS (hL2.out.trans (hBZ2_10 w.heap.size (by omega)))
    have hcZ2_10 := loadVar_blk (P := Try.prog) hgZ2_10 Try.underlying36 rfl (by kernel_rfl)
    clear hBZ2_10 hgZ2_10 hL2 hGP2 hGT2 hGR2
    go_wp2_with fail
    exact bodyPost_ret (v := .agg #[.int .i64 0, .int .i64 0, .int .i64 0, .int .i64 0, .int .i64 0, .int .i64 0, .int .i64 0, .int .i64 0, .int .i64 0, .int .i64 0, .int .i64 0, .int .i64 0, .int .i64 0, .bool false, .bool false, .int .i64 0, .int .i64 0, .int .i64 1]) (results_cell Try.results10 rfl hcZ2_10) rfl ⟨by rw [EA.out, EC.out]; rfl, hEZ2_10.out⟩
  have q2 : (g.proto != p.proto) = false := by unfold bne; rw [h2]; rfl
  cases h3 : (g.kind == p.kind)
  · have q3 : (g.kind != p.kind) = true := by unfold bne; rw [h3]; rfl
    have E0 : Hid (newB p g now = false) := by show _ = _; rw [EB.out, h0, h1, h2, h3]; rfl
    have EA := hidS (newA_no E0.out)
    have EC := hidS (newC_no E0.out)
    go_upto_region 2 with fail
    clear cP0 cP1 cP2 cP3 cP4 cP5 cP6 cP7 cP8 cP9 cT0 cT1 cT2 cT3 cT4 cT5
    refine plain_into 1 _ [.is (.agg #[.int .i64 0, .int .i64 0, .int .i64 0, .int .i64 0, .int .i64 0, .int .i64 0, .int .i64 0, .int .i64 0, .int .i64 0, .int .i64 0, .int .i64 0, .int .i64 0, .int .i64 0, .bool false, .bool false, .int .i64 0, .int .i64 0, .int .i64 1])] 0 6 34 36 36 (w.heap.size + 2) #[.int .i64 0, .int .i64 0, .int .i64 0, .int .i64 0, .int .i64 0, .int .i64 0, .int .i64 0, .int .i64 0, .int .i64 0, .int .i64 0, .int .i64 0, .int .i64 0, .int .i64 0, .bool false, .bool false, .int .i64 0, .int .i64 0, .int .i64 0] #[.int .i64 0, .int .i64 0, .int .i64 0, .int .i64 0, .int .i64 0, .int .i64 0, .int .i64 0, .int .i64 0, .int .i64 0, .int .i64 0, .int .i64 0, .int .i64 0, .int .i64 0, .bool false, .bool false, .int .i64 0, .int .i64 0, .int .i64 1] rfl rfl rfl (by kernel_rfl) (by kernel_rfl) (by kernel_rfl) rfl rfl (by decide) (by kernel_rfl) (by kernel_rfl) (by decide) hGR2.out (by kernel_rfl) (by kernel_rfl) (by first | kernel_rfl | simp [Value.oneCell']) (by kernel_rfl) ?stepsZ2_11 ?finZ2_11
    case stepsZ2_11 =>
      refine ⟨?_, trivial⟩
      · refine ⟨rfl, fun v W ρ hC kc kf ks ki kd => ?_⟩
        simp [execOp, go_sem, kc, kf]
        exact Calls.mono (HI1.out W) (fun e x h => ⟨_, h.1, hC.trans (h.2.mono hC.size), h.2, rfl⟩)
    intro vZ2_11 WZ2_11 hBZ2_11 hgZ2_11 hall
    simp [upto, Act.put]
    clear hall
    have hEZ2_11 := hidS (hL2.out.trans (hBZ2_11 w.heap.size (by omega)))
    have hcZ2_11 := loadVar_blk (P := Try.prog) hgZ2_11 Try.underlying36 rfl (by kernel_rfl)
    clear hBZ2_11 hgZ2_11 hL2 hGP2 hGT2 hGR2
    go_wp2_with fail
    exact bodyPost_ret (v := .agg #[.int .i64 0, .int .i64 0, .int .i64 0, .int .i64 0, .int .i64 0, .int .i64 0, .int .i64 0, .int .i64 0, .int .i64 0, .int .i64 0, .int .i64 0, .int .i64 0, .int .i64 0, .bool false, .bool false, .int .i64 0, .int .i64 0, .int .i64 1]) (results_cell Try.results10 rfl hcZ2_11) rfl ⟨by rw [EA.out, EC.out]; rfl, hEZ2_11.out⟩
  have q3 : (g.kind != p.kind) = false := by unfold bne; rw [h3]; rfl
  go_wp2_with fail
  refine (HM.out _).mono ?_
  rintro _ v ⟨rfl, hv⟩
  rw [hv]
  clear hv v
  cases h4 : tmB now
  · have E0 : Hid (newB p g now = false) := by show _ = _; rw [EB.out, h0, h1, h2, h3, h4]; rfl
    have EA := hidS (newA_no E0.out)
    have EC := hidS (newC_no E0.out)
    go_upto_region 2 with fail
    clear cP0 cP1 cP2 cP3 cP4 cP5 cP6 cP7 cP8 cP9 cT0 cT1 cT2 cT3 cT4 cT5
    refine plain_into 1 _ [.is (.agg #[.int .i64 0, .int .i64 0, .int .i64 0, .int .i64 0, .int .i64 0, .int .i64 0, .int .i64 0, .int .i64 0, .int .i64 0, .int .i64 0, .int .i64 0, .int .i64 0, .int .i64 0, .bool false, .bool false, .int .i64 0, .int .i64 0, .int .i64 1])] 0 6 34 36 36 (w.heap.size + 2) #[.int .i64 0, .int .i64 0, .int .i64 0, .int .i64 0, .int .i64 0, .int .i64 0, .int .i64 0, .int .i64 0, .int .i64 0, .int .i64 0, .int .i64 0, .int .i64 0, .int .i64 0, .bool false, .bool false, .int .i64 0, .int .i64 0, .int .i64 0] #[.int .i64 0, .int .i64 0, .int .i64 0, .int .i64 0, .int .i64 0, .int .i64 0, .int .i64 0, .int .i64 0, .int .i64 0, .int .i64 0, .int .i64 0, .int .i64 0, .int .i64 0, .bool false, .bool false, .int .i64 0, .int .i64 0, .int .i64 1] rfl rfl rfl (by kernel_rfl) (by kernel_rfl) (by kernel_rfl) rfl rfl (by decide) (by kernel_rfl) (by kernel_rfl) (by decide) hGR2.out (by kernel_rfl) (by kernel_rfl) (by first | kernel_rfl | simp [Value.oneCell']) (by kernel_rfl) ?stepsZ2_12 ?finZ2_12
    case stepsZ2_12 =>
      refine ⟨?_, trivial⟩
      · refine ⟨rfl, fun v W ρ hC kc kf ks ki kd => ?_⟩
        simp [execOp, go_sem, kc, kf]
        exact Calls.mono (HI1.out W) (fun e x h => ⟨_, h.1, hC.trans (h.2.mono hC.size), h.2, rfl⟩)
    intro vZ2_12 WZ2_12 hBZ2_12 hgZ2_12 hall
    simp [upto, Act.put]
    clear hall
    have hEZ2_12 := hidS (hL2.out.trans (hBZ2_12 w.heap.size (by omega)))
    have hcZ2_12 := loadVar_blk (P := Try.prog) hgZ2_12 Try.underlying36 rfl (by kernel_rfl)
    clear hBZ2_12 hgZ2_12 hL2 hGP2 hGT2 hGR2
    go_wp2_with fail
    exact bodyPost_ret (v := .agg #[.int .i64 0, .int .i64 0, .int .i64 0, .int .i64 0, .int .i64 0, .int .i64 0, .int .i64 0, .int .i64 0, .int .i64 0, .int .i64 0, .int .i64 0, .int .i64 0, .int .i64 0, .bool false, .bool false, .int .i64 0, .int .i64 0, .int .i64 1]) (results_cell Try.results10 rfl hcZ2_12) rfl ⟨by rw [EA.out, EC.out]; rfl, hEZ2_12.out⟩
  have E0 : Hid (newB p g now = true) := by show _ = _; rw [EB.out, h0, h1, h2, h3, h4]; rfl
  have EA := hidS (newA_yes E0.out)
  have EC := hidS (newC_yes E0.out)
  have HN2 := hidS (HN.out h1 (tmB_iff.1 h4))
  go_upto_region 3 with fail
  clear cP0 cP1 cP2 cP3 cP4 cP5 cP6 cP7 cP8 cP9 cT0 cT1 cT2 cT3 cT4 cT5
  refine plain_into 4 _ [.is (.agg #[.int .i64 p.src, .int .i64 p.dst, .int .i64 p.proto, .int .i64 p.a, .int .i64 p.b, .int .i64 p.kind, .int .i64 p.flags, .int .i64 p.seq, .int .i64 p.ack, .string p.body]), .is (.agg #[.int .i64 g.proto, .int .i64 g.src, .int .i64 g.sport, .int .i64 g.dst, .int .i64 g.dport, .int .i64 g.kind]), .is (.int .i64 now), .is (.agg #[.int .i64 (flowN p g now).orig.proto, .int .i64 (flowN p g now).orig.src, .int .i64 (flowN p g now).orig.sport, .int .i64 (flowN p g now).orig.dst, .int .i64 (flowN p g now).orig.dport, .int .i64 (flowN p g now).orig.kind, .int .i64 (flowN p g now).back.proto, .int .i64 (flowN p g now).back.src, .int .i64 (flowN p g now).back.sport, .int .i64 (flowN p g now).back.dst, .int .i64 (flowN p g now).back.dport, .int .i64 (flowN p g now).back.kind, .int .i64 (flowN p g now).state, .bool (flowN p g now).seen, .bool (flowN p g now).sure, .int .i64 (flowN p g now).till, .int .i64 (flowN p g now).count, .int .i64 (codeN p)])] 3 6 38 36 36 (w.heap.size + 2) #[.int .i64 0, .int .i64 0, .int .i64 0, .int .i64 0, .int .i64 0, .int .i64 0, .int .i64 0, .int .i64 0, .int .i64 0, .int .i64 0, .int .i64 0, .int .i64 0, .int .i64 0, .bool false, .bool false, .int .i64 0, .int .i64 0, .int .i64 0] #[.int .i64 (flowN p g now).orig.proto, .int .i64 (flowN p g now).orig.src, .int .i64 (flowN p g now).orig.sport, .int .i64 (flowN p g now).orig.dst, .int .i64 (flowN p g now).orig.dport, .int .i64 (flowN p g now).orig.kind, .int .i64 (flowN p g now).back.proto, .int .i64 (flowN p g now).back.src, .int .i64 (flowN p g now).back.sport, .int .i64 (flowN p g now).back.dst, .int .i64 (flowN p g now).back.dport, .int .i64 (flowN p g now).back.kind, .int .i64 (flowN p g now).state, .bool (flowN p g now).seen, .bool (flowN p g now).sure, .int .i64 (flowN p g now).till, .int .i64 (flowN p g now).count, .int .i64 (codeN p)] rfl rfl rfl (by kernel_rfl) (by kernel_rfl) (by kernel_rfl) rfl rfl (by decide) (by kernel_rfl) (by kernel_rfl) (by decide) hGR2.out (by kernel_rfl) (by kernel_rfl) (by first | kernel_rfl | simp [Value.oneCell']) (by kernel_rfl) ?stepsN_13 ?finN_13
  case stepsN_13 =>
    refine ⟨?_, ?_, ?_, ?_, trivial⟩
    · refine ⟨rfl, fun v W ρ hC kc kf ks ki kd => ?_⟩
      have t3 : ρ (.tmp 3) = .pointer (some ⟨w.heap.size, 0, none⟩) := ki 3 (by decide)
      have hg := blk_later hGP2.out hC
      have c0 := blk_cell hg 0
      have c1 := blk_cell hg 1
      have c2 := blk_cell hg 2
      have c3 := blk_cell hg 3
      have c4 := blk_cell hg 4
      have c5 := blk_cell hg 5
      have c6 := blk_cell hg 6
      have c7 := blk_cell hg 7
      have c8 := blk_cell hg 8
      have c9 := blk_cell hg 9
      simp at c0 c1 c2 c3 c4 c5 c6 c7 c8 c9
      simp [execOp, go_sem, kc, t3, c0, c1, c2, c3, c4, c5, c6, c7, c8, c9]
      exact ⟨hC, Below.refl _ _, rfl⟩
    · refine ⟨rfl, fun v W ρ hC kc kf ks ki kd => ?_⟩
      have t4 : ρ (.tmp 4) = .pointer (some ⟨w.heap.size + 1, 0, none⟩) := ki 4 (by decide)
      have hg := blk_later hGT2.out hC
      have c0 := blk_cell hg 0
      have c1 := blk_cell hg 1
      have c2 := blk_cell hg 2
      have c3 := blk_cell hg 3
      have c4 := blk_cell hg 4
      have c5 := blk_cell hg 5
      simp at c0 c1 c2 c3 c4 c5
      simp [execOp, go_sem, kc, t4, c0, c1, c2, c3, c4, c5]
      exact ⟨hC, Below.refl _ _, rfl⟩
    · refine ⟨rfl, fun v W ρ hC kc kf ks ki kd => ?_⟩
      have t2 : ρ (.tmp 2) = .int .i64 now := ki 2 (by decide)
      simp [execOp, go_sem, kc, t2]
      exact ⟨hC, Below.refl _ _, rfl⟩
    · refine ⟨rfl, fun v W ρ hC kc kf ks ki kd => ?_⟩
      have d0 : v 0 = .agg #[.int .i64 p.src, .int .i64 p.dst, .int .i64 p.proto, .int .i64 p.a, .int .i64 p.b, .int .i64 p.kind, .int .i64 p.flags, .int .i64 p.seq, .int .i64 p.ack, .string p.body] := by first | exact kd _ (mem0 rfl) rfl | exact kd _ (mem1 rfl) rfl | exact kd _ (mem2 rfl) rfl | exact kd _ (mem3 rfl) rfl | exact kd _ (mem4 rfl) rfl | exact kd _ (mem5 rfl) rfl | exact kd _ (Array.mem_of_getElem? (i := 6) rfl) rfl | exact kd _ (Array.mem_of_getElem? (i := 7) rfl) rfl
      have t35 : ρ (.tmp 35) = .agg #[.int .i64 p.src, .int .i64 p.dst, .int .i64 p.proto, .int .i64 p.a, .int .i64 p.b, .int .i64 p.kind, .int .i64 p.flags, .int .i64 p.seq, .int .i64 p.ack, .string p.body] := (ks 0 35 (by decide) rfl).trans d0
      have d1 : v 1 = .agg #[.int .i64 g.proto, .int .i64 g.src, .int .i64 g.sport, .int .i64 g.dst, .int .i64 g.dport, .int .i64 g.kind] := by first | exact kd _ (mem0 rfl) rfl | exact kd _ (mem1 rfl) rfl | exact kd _ (mem2 rfl) rfl | exact kd _ (mem3 rfl) rfl | exact kd _ (mem4 rfl) rfl | exact kd _ (mem5 rfl) rfl | exact kd _ (Array.mem_of_getElem? (i := 6) rfl) rfl | exact kd _ (Array.mem_of_getElem? (i := 7) rfl) rfl
      have t36 : ρ (.tmp 36) = .agg #[.int .i64 g.proto, .int .i64 g.src, .int .i64 g.sport, .int .i64 g.dst, .int .i64 g.dport, .int .i64 g.kind] := (ks 1 36 (by decide) rfl).trans d1
      have d2 : v 2 = .int .i64 now := by first | exact kd _ (mem0 rfl) rfl | exact kd _ (mem1 rfl) rfl | exact kd _ (mem2 rfl) rfl | exact kd _ (mem3 rfl) rfl | exact kd _ (mem4 rfl) rfl | exact kd _ (mem5 rfl) rfl | exact kd _ (Array.mem_of_getElem? (i := 6) rfl) rfl | exact kd _ (Array.mem_of_getElem? (i := 7) rfl) rfl
      have t37 : ρ (.tmp 37) = .int .i64 now := (ks 2 37 (by decide) rfl).trans d2
      simp [execOp, go_sem, kc, t35, t36, t37, kf]
      exact Calls.mono (HN2.out W) (fun e x h => ⟨_, h.1, hC.trans (h.2.mono hC.size), h.2, rfl⟩)
  intro vN_13 WN_13 hBN_13 hgN_13 hall
  simp [upto, Act.put]
  clear hall
  have hEN_13 := hidS (hL2.out.trans (hBN_13 w.heap.size (by omega)))
  have hcN_13 := loadVar_blk (P := Try.prog) hgN_13 Try.underlying36 rfl (by kernel_rfl)
  clear hBN_13 hgN_13 hL2 hGP2 hGT2 hGR2
  go_wp2_with fail
  exact bodyPost_ret (v := .agg #[.int .i64 (flowN p g now).orig.proto, .int .i64 (flowN p g now).orig.src, .int .i64 (flowN p g now).orig.sport, .int .i64 (flowN p g now).orig.dst, .int .i64 (flowN p g now).orig.dport, .int .i64 (flowN p g now).orig.kind, .int .i64 (flowN p g now).back.proto, .int .i64 (flowN p g now).back.src, .int .i64 (flowN p g now).back.sport, .int .i64 (flowN p g now).back.dst, .int .i64 (flowN p g now).back.dport, .int .i64 (flowN p g now).back.kind, .int .i64 (flowN p g now).state, .bool (flowN p g now).seen, .bool (flowN p g now).sure, .int .i64 (flowN p g now).till, .int .i64 (flowN p g now).count, .int .i64 (codeN p)]) (results_cell Try.results10 rfl hcN_13) rfl ⟨by rw [EA.out, EC.out], hEN_13.out⟩
end Go.Proofs.Ytbhemimhmkgfiaa
