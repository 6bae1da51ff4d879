/- Proved here: impl.FlowNext answers as the plain function; all old memory stays (no conditions but those that stand there). -/
import Derived.Test.YtbhemimhmkgfiaaFlowI2
import Derived.Test.YtbhemimhmkgfiaaFlowFacts
namespace Go.Proofs.Ytbhemimhmkgfiaa
open Go.ChangeShapes Go.WideShapes Go.ChangeAt Go.RowKit
set_option linter.unusedVariables false
set_option linter.unusedSimpArgs false
set_option maxRecDepth 100000

set_option maxHeartbeats 8000000 in
theorem implFX_any (f : Fl) (p : Pk) (b : Bool) (now : Int) (w : World) (hs : p.body.size ≤ maxLen) :
    Calls Try.prog 16 #[.agg #[.int .i64 f.orig.proto, .int .i64 f.orig.src, .int .i64 f.orig.sport, .int .i64 f.orig.dst, .int .i64 f.orig.dport, .int .i64 f.orig.kind, .int .i64 f.back.proto, .int .i64 f.back.src, .int .i64 f.back.sport, .int .i64 f.back.dst, .int .i64 f.back.dport, .int .i64 f.back.kind, .int .i64 f.state, .bool f.seen, .bool f.sure, .int .i64 f.till, .int .i64 f.count], .agg #[.int .i64 p.src, .int .i64 p.dst, .int .i64 p.proto, .int .i64 p.a, .int .i64 p.b, .int .i64 p.kind, .int .i64 p.flags, .int .i64 p.seq, .int .i64 p.ack, .string p.body], .bool b, .int .i64 now] w fun e w' => e = .returned (.agg #[.int .i64 (nextA f p b now).orig.proto, .int .i64 (nextA f p b now).orig.src, .int .i64 (nextA f p b now).orig.sport, .int .i64 (nextA f p b now).orig.dst, .int .i64 (nextA f p b now).orig.dport, .int .i64 (nextA f p b now).orig.kind, .int .i64 (nextA f p b now).back.proto, .int .i64 (nextA f p b now).back.src, .int .i64 (nextA f p b now).back.sport, .int .i64 (nextA f p b now).back.dst, .int .i64 (nextA f p b now).back.dport, .int .i64 (nextA f p b now).back.kind, .int .i64 (nextA f p b now).state, .bool (nextA f p b now).seen, .bool (nextA f p b now).sure, .int .i64 (nextA f p b now).till, .int .i64 (nextA f p b now).count, .int .i64 (nextC f p b now)]) ∧ Below w.heap.size w w' := by
  have EB : Hid ((rightF f && sameT (ofAns p) (sideF f b)) = isOfF f p b) := isOf_eq f p b
  have HT := hidS (fun W => talkOf_any f W)
  have HR := hidS (fun W => isRight_any f W)
  have HO := hidS (fun W => isOf_any f p b W hs)
  have HS := hidS (fun W => stateAfter_any f p b W)
  clear hs
  have hGF0 : Hid ((((w.alloc (.cells #[.int .i64 f.orig.proto, .int .i64 f.orig.src, .int .i64 f.orig.sport, .int .i64 f.orig.dst, .int .i64 f.orig.dport, .int .i64 f.orig.kind, .int .i64 f.back.proto, .int .i64 f.back.src, .int .i64 f.back.sport, .int .i64 f.back.dst, .int .i64 f.back.dport, .int .i64 f.back.kind, .int .i64 f.state, .bool f.seen, .bool f.sure, .int .i64 f.till, .int .i64 f.count] 29)).alloc (.cells #[.int .i64 p.src, .int .i64 p.dst, .int .i64 p.proto, .int .i64 p.a, .int .i64 p.b, .int .i64 p.kind, .int .i64 p.flags, .int .i64 p.seq, .int .i64 p.ack, .string p.body] 38)).alloc (.cells #[.int .i64 0, .int .i64 0, .int .i64 0, .int .i64 0, .int .i64 0, .int .i64 0, .int .i64 0, .int .i64 0, .int .i64 0, .int .i64 0, .int .i64 0, .int .i64 0, .int .i64 0, .bool false, .bool false, .int .i64 0, .int .i64 0, .int .i64 0] 36)).heap[w.heap.size]? = some (.cells #[.int .i64 f.orig.proto, .int .i64 f.orig.src, .int .i64 f.orig.sport, .int .i64 f.orig.dst, .int .i64 f.orig.dport, .int .i64 f.orig.kind, .int .i64 f.back.proto, .int .i64 f.back.src, .int .i64 f.back.sport, .int .i64 f.back.dst, .int .i64 f.back.dport, .int .i64 f.back.kind, .int .i64 f.state, .bool f.seen, .bool f.sure, .int .i64 f.till, .int .i64 f.count] 29)) := by
    show _ = _
    have := blk_alloc (blk_alloc (heap_newG w (.cells #[.int .i64 f.orig.proto, .int .i64 f.orig.src, .int .i64 f.orig.sport, .int .i64 f.orig.dst, .int .i64 f.orig.dport, .int .i64 f.orig.kind, .int .i64 f.back.proto, .int .i64 f.back.src, .int .i64 f.back.sport, .int .i64 f.back.dst, .int .i64 f.back.dport, .int .i64 f.back.kind, .int .i64 f.state, .bool f.seen, .bool f.sure, .int .i64 f.till, .int .i64 f.count] 29)) (.cells #[.int .i64 p.src, .int .i64 p.dst, .int .i64 p.proto, .int .i64 p.a, .int .i64 p.b, .int .i64 p.kind, .int .i64 p.flags, .int .i64 p.seq, .int .i64 p.ack, .string p.body] 38)) (.cells #[.int .i64 0, .int .i64 0, .int .i64 0, .int .i64 0, .int .i64 0, .int .i64 0, .int .i64 0, .int .i64 0, .int .i64 0, .int .i64 0, .int .i64 0, .int .i64 0, .int .i64 0, .bool false, .bool false, .int .i64 0, .int .i64 0, .int .i64 0] 36)
    simpa using this
  have hGP0 : Hid ((((w.alloc (.cells #[.int .i64 f.orig.proto, .int .i64 f.orig.src, .int .i64 f.orig.sport, .int .i64 f.orig.dst, .int .i64 f.orig.dport, .int .i64 f.orig.kind, .int .i64 f.back.proto, .int .i64 f.back.src, .int .i64 f.back.sport, .int .i64 f.back.dst, .int .i64 f.back.dport, .int .i64 f.back.kind, .int .i64 f.state, .bool f.seen, .bool f.sure, .int .i64 f.till, .int .i64 f.count] 29)).alloc (.cells #[.int .i64 p.src, .int .i64 p.dst, .int .i64 p.proto, .int .i64 p.a, .int .i64 p.b, .int .i64 p.kind, .int .i64 p.flags, .int .i64 p.seq, .int .i64 p.ack, .string p.body] 38)).alloc (.cells #[.int .i64 0, .int .i64 0, .int .i64 0, .int .i64 0, .int .i64 0, .int .i64 0, .int .i64 0, .int .i64 0, .int .i64 0, .int .i64 0, .int .i64 0, .int .i64 0, .int .i64 0, .bool false, .bool false, .int .i64 0, .int .i64 0, .int .i64 0] 36)).heap[w.heap.size + 1]? = some (.cells #[.int .i64 p.src, .int .i64 p.dst, .int .i64 p.proto, .int .i64 p.a, .int .i64 p.b, .int .i64 p.kind, .int .i64 p.flags, .int .i64 p.seq, .int .i64 p.ack, .string p.body] 38)) := by
    show _ = _
    have := blk_alloc (heap_newG (w.alloc (.cells #[.int .i64 f.orig.proto, .int .i64 f.orig.src, .int .i64 f.orig.sport, .int .i64 f.orig.dst, .int .i64 f.orig.dport, .int .i64 f.orig.kind, .int .i64 f.back.proto, .int .i64 f.back.src, .int .i64 f.back.sport, .int .i64 f.back.dst, .int .i64 f.back.dport, .int .i64 f.back.kind, .int .i64 f.state, .bool f.seen, .bool f.sure, .int .i64 f.till, .int .i64 f.count] 29)) (.cells #[.int .i64 p.src, .int .i64 p.dst, .int .i64 p.proto, .int .i64 p.a, .int .i64 p.b, .int .i64 p.kind, .int .i64 p.flags, .int .i64 p.seq, .int .i64 p.ack, .string p.body] 38)) (.cells #[.int .i64 0, .int .i64 0, .int .i64 0, .int .i64 0, .int .i64 0, .int .i64 0, .int .i64 0, .int .i64 0, .int .i64 0, .int .i64 0, .int .i64 0, .int .i64 0, .int .i64 0, .bool false, .bool false, .int .i64 0, .int .i64 0, .int .i64 0] 36)
    simpa using this
  have hGR0 : Hid ((((w.alloc (.cells #[.int .i64 f.orig.proto, .int .i64 f.orig.src, .int .i64 f.orig.sport, .int .i64 f.orig.dst, .int .i64 f.orig.dport, .int .i64 f.orig.kind, .int .i64 f.back.proto, .int .i64 f.back.src, .int .i64 f.back.sport, .int .i64 f.back.dst, .int .i64 f.back.dport, .int .i64 f.back.kind, .int .i64 f.state, .bool f.seen, .bool f.sure, .int .i64 f.till, .int .i64 f.count] 29)).alloc (.cells #[.int .i64 p.src, .int .i64 p.dst, .int .i64 p.proto, .int .i64 p.a, .int .i64 p.b, .int .i64 p.kind, .int .i64 p.flags, .int .i64 p.seq, .int .i64 p.ack, .string p.body] 38)).alloc (.cells #[.int .i64 0, .int .i64 0, .int .i64 0, .int .i64 0, .int .i64 0, .int .i64 0, .int .i64 0, .int .i64 0, .int .i64 0, .int .i64 0, .int .i64 0, .int .i64 0, .int .i64 0, .bool false, .bool false, .int .i64 0, .int .i64 0, .int .i64 0] 36)).heap[w.heap.size + 2]? = some (.cells #[.int .i64 0, .int .i64 0, .int .i64 0, .int .i64 0, .int .i64 0, .int .i64 0, .int .i64 0, .int .i64 0, .int .i64 0, .int .i64 0, .int .i64 0, .int .i64 0, .int .i64 0, .bool false, .bool false, .int .i64 0, .int .i64 0, .int .i64 0] 36)) := by
    show _ = _
    have := heap_newG ((w.alloc (.cells #[.int .i64 f.orig.proto, .int .i64 f.orig.src, .int .i64 f.orig.sport, .int .i64 f.orig.dst, .int .i64 f.orig.dport, .int .i64 f.orig.kind, .int .i64 f.back.proto, .int .i64 f.back.src, .int .i64 f.back.sport, .int .i64 f.back.dst, .int .i64 f.back.dport, .int .i64 f.back.kind, .int .i64 f.state, .bool f.seen, .bool f.sure, .int .i64 f.till, .int .i64 f.count] 29)).alloc (.cells #[.int .i64 p.src, .int .i64 p.dst, .int .i64 p.proto, .int .i64 p.a, .int .i64 p.b, .int .i64 p.kind, .int .i64 p.flags, .int .i64 p.seq, .int .i64 p.ack, .string p.body] 38)) (.cells #[.int .i64 0, .int .i64 0, .int .i64 0, .int .i64 0, .int .i64 0, .int .i64 0, .int .i64 0, .int .i64 0, .int .i64 0, .int .i64 0, .int .i64 0, .int .i64 0, .int .i64 0, .bool false, .bool false, .int .i64 0, .int .i64 0, .int .i64 0] 36)
    simpa using this
  have hL0 := hidS ((((Below.refl w.heap.size w).alloc (Nat.le_refl _) (.cells #[.int .i64 f.orig.proto, .int .i64 f.orig.src, .int .i64 f.orig.sport, .int .i64 f.orig.dst, .int .i64 f.orig.dport, .int .i64 f.orig.kind, .int .i64 f.back.proto, .int .i64 f.back.src, .int .i64 f.back.sport, .int .i64 f.back.dst, .int .i64 f.back.dport, .int .i64 f.back.kind, .int .i64 f.state, .bool f.seen, .bool f.sure, .int .i64 f.till, .int .i64 f.count] 29)).alloc (by simp) (.cells #[.int .i64 p.src, .int .i64 p.dst, .int .i64 p.proto, .int .i64 p.a, .int .i64 p.b, .int .i64 p.kind, .int .i64 p.flags, .int .i64 p.seq, .int .i64 p.ack, .string p.body] 38)).alloc (by simp; omega) (.cells #[.int .i64 0, .int .i64 0, .int .i64 0, .int .i64 0, .int .i64 0, .int .i64 0, .int .i64 0, .int .i64 0, .int .i64 0, .int .i64 0, .int .i64 0, .int .i64 0, .int .i64 0, .bool false, .bool false, .int .i64 0, .int .i64 0, .int .i64 0] 36))
  go_enter Try.func16, Try.ntmps16
  go_upto_region 1 with fail
  generalize (((w.alloc (.cells #[.int .i64 f.orig.proto, .int .i64 f.orig.src, .int .i64 f.orig.sport, .int .i64 f.orig.dst, .int .i64 f.orig.dport, .int .i64 f.orig.kind, .int .i64 f.back.proto, .int .i64 f.back.src, .int .i64 f.back.sport, .int .i64 f.back.dst, .int .i64 f.back.dport, .int .i64 f.back.kind, .int .i64 f.state, .bool f.seen, .bool f.sure, .int .i64 f.till, .int .i64 f.count] 29)).alloc (.cells #[.int .i64 p.src, .int .i64 p.dst, .int .i64 p.proto, .int .i64 p.a, .int .i64 p.b, .int .i64 p.kind, .int .i64 p.flags, .int .i64 p.seq, .int .i64 p.ack, .string p.body] 38)).alloc (.cells #[.int .i64 0, .int .i64 0, .int .i64 0, .int .i64 0, .int .i64 0, .int .i64 0, .int .i64 0, .int .i64 0, .int .i64 0, .int .i64 0, .int .i64 0, .int .i64 0, .int .i64 0, .bool false, .bool false, .int .i64 0, .int .i64 0, .int .i64 0] 36)) = w0 at hGF0 hGP0 hGR0 hL0 ⊢
  refine plain_struct 3 _ [.is (.agg #[.int .i64 f.orig.proto, .int .i64 f.orig.src, .int .i64 f.orig.sport, .int .i64 f.orig.dst, .int .i64 f.orig.dport, .int .i64 f.orig.kind, .int .i64 f.back.proto, .int .i64 f.back.src, .int .i64 f.back.sport, .int .i64 f.back.dst, .int .i64 f.back.dport, .int .i64 f.back.kind, .int .i64 f.state, .bool f.seen, .bool f.sure, .int .i64 f.till, .int .i64 f.count]), .is (.agg #[.int .i64 f.orig.proto, .int .i64 f.orig.src, .int .i64 f.orig.sport, .int .i64 f.orig.dst, .int .i64 f.orig.dport, .int .i64 f.orig.kind, .int .i64 f.back.proto, .int .i64 f.back.src, .int .i64 f.back.sport, .int .i64 f.back.dst, .int .i64 f.back.dport, .int .i64 f.back.kind, .int .i64 f.state, .bool f.seen, .bool f.sure, .int .i64 f.till, .int .i64 f.count]), .blk w0.heap.size #[.int .i64 0, .int .i64 0, .int .i64 0, .int .i64 0, .int .i64 0, .int .i64 0, .int .i64 0, .int .i64 0, .int .i64 0, .int .i64 0, .int .i64 0, .int .i64 0, .int .i64 0, .bool false, .bool false, .int .i64 0, .int .i64 0] 51] 2 1 9 12 51 51 #[.int .i64 0, .int .i64 0, .int .i64 0, .int .i64 0, .int .i64 0, .int .i64 0, .int .i64 0, .int .i64 0, .int .i64 0, .int .i64 0, .int .i64 0, .int .i64 0, .int .i64 0, .bool false, .bool false, .int .i64 0, .int .i64 0] #[.int .i64 f.orig.proto, .int .i64 f.orig.src, .int .i64 f.orig.sport, .int .i64 f.orig.dst, .int .i64 f.orig.dport, .int .i64 f.orig.kind, .int .i64 f.back.proto, .int .i64 f.back.src, .int .i64 f.back.sport, .int .i64 f.back.dst, .int .i64 f.back.dport, .int .i64 f.back.kind, .int .i64 f.state, .bool f.seen, .bool f.sure, .int .i64 f.till, .int .i64 f.count] rfl rfl rfl (by kernel_rfl) (by kernel_rfl) (by kernel_rfl) rfl rfl rfl rfl (by decide) (by decide) rfl rfl rfl (by first | kernel_rfl | simp [Value.oneCell']) (by kernel_rfl) ?stepsA_18 ?finA_18
  case stepsA_18 =>
    refine ⟨?_, ?_, ?_, trivial⟩
    · refine ⟨rfl, fun v W ρ hC kc kf ks ki kd => ?_⟩
      have t4 : ρ (.tmp 4) = .pointer (some ⟨w.heap.size, 0, none⟩) := ki 4 (by decide)
      simp only [execOp, t4, Sem.run_bind, loadAt_part (o := 0) [.int .i64 f.orig.proto, .int .i64 f.orig.src, .int .i64 f.orig.sport, .int .i64 f.orig.dst, .int .i64 f.orig.dport, .int .i64 f.orig.kind, .int .i64 f.back.proto, .int .i64 f.back.src, .int .i64 f.back.sport, .int .i64 f.back.dst, .int .i64 f.back.dport, .int .i64 f.back.kind, .int .i64 f.state, .bool f.seen, .bool f.sure, .int .i64 f.till, .int .i64 f.count] (blk_later hGF0.out hC) rfl Try.underlying29 rfl (by kernel_rfl), Result.andThen_ok, Sem.run_pure]
      exact ⟨hC, Below.refl _ _, rfl⟩
    · refine ⟨rfl, fun v W ρ hC kc kf ks ki kd => ?_⟩
      have d0 : v 0 = .agg #[.int .i64 f.orig.proto, .int .i64 f.orig.src, .int .i64 f.orig.sport, .int .i64 f.orig.dst, .int .i64 f.orig.dport, .int .i64 f.orig.kind, .int .i64 f.back.proto, .int .i64 f.back.src, .int .i64 f.back.sport, .int .i64 f.back.dst, .int .i64 f.back.dport, .int .i64 f.back.kind, .int .i64 f.state, .bool f.seen, .bool f.sure, .int .i64 f.till, .int .i64 f.count] := by first | exact kd _ (mem0 rfl) rfl | exact kd _ (mem1 rfl) rfl | exact kd _ (mem2 rfl) rfl | exact kd _ (mem3 rfl) rfl | exact kd _ (mem4 rfl) rfl | exact kd _ (mem5 rfl) rfl | exact kd _ (Array.mem_of_getElem? (i := 6) rfl) rfl | exact kd _ (Array.mem_of_getElem? (i := 7) rfl) rfl
      have t11 : ρ (.tmp 11) = .agg #[.int .i64 f.orig.proto, .int .i64 f.orig.src, .int .i64 f.orig.sport, .int .i64 f.orig.dst, .int .i64 f.orig.dport, .int .i64 f.orig.kind, .int .i64 f.back.proto, .int .i64 f.back.src, .int .i64 f.back.sport, .int .i64 f.back.dst, .int .i64 f.back.dport, .int .i64 f.back.kind, .int .i64 f.state, .bool f.seen, .bool f.sure, .int .i64 f.till, .int .i64 f.count] := (ks 0 11 (by decide) rfl).trans d0
      simp [execOp, go_sem, kc, t11, kf]
      exact Calls.mono (HT.out W) (fun e x h => ⟨_, h.1, hC.trans (h.2.mono hC.size), h.2, rfl⟩)
    · refine ⟨rfl, fun v W ρ hC kc kf ks ki kd => ?_⟩
      simp [execOp, go_sem]
      exact ⟨hC.alloc hC.size _, (Below.refl _ _).alloc (Nat.le_refl _) _, W.heap.size, rfl, hC.size, heap_newG _ _⟩
  intro vA_18 w1 gK hb hvB hnK hBk hall
  simp [upto, Act.put]
  rw [hvB]
  clear hall hvB
  have hGF1 := hidS (blk_later hGF0.out hb)
  have lKF := blk_lt hGF0.out
  have hGP1 := hidS (blk_later hGP0.out hb)
  have lKP := blk_lt hGP0.out
  have hGR1 := hidS (blk_later hGR0.out hb)
  have lKR := blk_lt hGR0.out
  have lwK := hL0.out.size
  have hL1 := hidS (hL0.out.trans (hb.mono hL0.out.size))
  have hGK1 := hidS hBk
  clear hb hBk hL0 hGF0 hGP0 hGR0
  go_wp2_with (first | refine wpList_load_blk 51 (.tmp 9) rfl rfl rfl hGK1.out Try.underlying51 rfl (by kernel_rfl) ?_)
  refine (HR.out _).mono ?_
  rintro _ w2 ⟨rfl, hb2⟩
  have hGF2 := hidS (blk_later hGF1.out hb2)
  have hGP2 := hidS (blk_later hGP1.out hb2)
  have hGR2 := hidS (blk_later hGR1.out hb2)
  have hGK2 := hidS (blk_later hGK1.out hb2)
  have hL2 := hidS (hL1.out.trans (hb2.mono hL1.out.size))
  clear hb2 hL1 hGF1 hGP1 hGR1 hGK1
  cases h0 : rightF f
  · have E0 : Hid ((isOfF f p b && tmB now) = false) := by show _ = _; rw [← EB.out, h0]; simp
    have EA := hidS (nextA_no E0.out)
    have EC := hidS (nextC_no E0.out)
    clear EB HT HR HO HS
    go_upto_region 3 with fail
    refine plain_into 1 _ [.is (.agg #[.int .i64 0, .int .i64 0, .int .i64 0, .int .i64 0, .int .i64 0, .int .i64 0, .int .i64 0, .int .i64 0, .int .i64 0, .int .i64 0, .int .i64 0, .int .i64 0, .int .i64 0, .bool false, .bool false, .int .i64 0, .int .i64 0, .int .i64 1])] 0 8 29 36 36 (w.heap.size + 2) #[.int .i64 0, .int .i64 0, .int .i64 0, .int .i64 0, .int .i64 0, .int .i64 0, .int .i64 0, .int .i64 0, .int .i64 0, .int .i64 0, .int .i64 0, .int .i64 0, .int .i64 0, .bool false, .bool false, .int .i64 0, .int .i64 0, .int .i64 0] #[.int .i64 0, .int .i64 0, .int .i64 0, .int .i64 0, .int .i64 0, .int .i64 0, .int .i64 0, .int .i64 0, .int .i64 0, .int .i64 0, .int .i64 0, .int .i64 0, .int .i64 0, .bool false, .bool false, .int .i64 0, .int .i64 0, .int .i64 1] rfl rfl rfl (by kernel_rfl) (by kernel_rfl) (by kernel_rfl) rfl rfl (by decide) (by kernel_rfl) (by kernel_rfl) (by decide) hGR2.out (by kernel_rfl) (by kernel_rfl) (by first | kernel_rfl | simp [Value.oneCell']) (by kernel_rfl) ?stepsN_19 ?finN_19
    case stepsN_19 =>
      refine ⟨?_, trivial⟩
      · refine ⟨rfl, fun v W ρ hC kc kf ks ki kd => ?_⟩
        simp [execOp, go_sem, kc, ]
        exact ⟨hC, Below.refl _ _, rfl⟩
    intro vN_19 WN_19 hBN_19 hgN_19 hall
    simp [upto, Act.put]
    clear hall
    have hEN_19 := hidS (hL2.out.trans (hBN_19 w.heap.size (by omega)))
    have hcN_19 := loadVar_blk (P := Try.prog) hgN_19 Try.underlying36 rfl (by kernel_rfl)
    clear hBN_19 hgN_19 hL2 hGF2 hGP2 hGR2 hGK2
    go_wp2_with fail
    exact bodyPost_ret (v := .agg #[.int .i64 0, .int .i64 0, .int .i64 0, .int .i64 0, .int .i64 0, .int .i64 0, .int .i64 0, .int .i64 0, .int .i64 0, .int .i64 0, .int .i64 0, .int .i64 0, .int .i64 0, .bool false, .bool false, .int .i64 0, .int .i64 0, .int .i64 1]) (results_cell Try.results16 rfl hcN_19) rfl ⟨by rw [EA.out, EC.out]; rfl, hEN_19.out⟩
  have cP0 := blk_cell hGP2.out 0
  have cP1 := blk_cell hGP2.out 1
  have cP2 := blk_cell hGP2.out 2
  have cP3 := blk_cell hGP2.out 3
  have cP4 := blk_cell hGP2.out 4
  have cP5 := blk_cell hGP2.out 5
  have cP6 := blk_cell hGP2.out 6
  have cP7 := blk_cell hGP2.out 7
  have cP8 := blk_cell hGP2.out 8
  have cP9 := blk_cell hGP2.out 9
  simp at cP0 cP1 cP2 cP3 cP4 cP5 cP6 cP7 cP8 cP9
  go_wp2_with (first | refine wpList_load_blk 51 (.tmp 9) rfl rfl rfl hGK2.out Try.underlying51 rfl (by kernel_rfl) ?_)
  refine (HO.out _).mono ?_
  rintro _ w3 ⟨rfl, hb3⟩
  clear cP0 cP1 cP2 cP3 cP4 cP5 cP6 cP7 cP8 cP9
  have hGF3 := hidS (blk_later hGF2.out hb3)
  have hGP3 := hidS (blk_later hGP2.out hb3)
  have hGR3 := hidS (blk_later hGR2.out hb3)
  have hGK3 := hidS (blk_later hGK2.out hb3)
  have hL3 := hidS (hL2.out.trans (hb3.mono hL2.out.size))
  clear hb3 hL2 hGF2 hGP2 hGR2 hGK2
  cases h1 : sameT (ofAns p) (sideF f b)
  · have E0 : Hid ((isOfF f p b && tmB now) = false) := by show _ = _; rw [← EB.out, h0, h1]; simp
    have EA := hidS (nextA_no E0.out)
    have EC := hidS (nextC_no E0.out)
    clear EB HT HR HO HS
    go_upto_region 3 with fail
    refine plain_into 1 _ [.is (.agg #[.int .i64 0, .int .i64 0, .int .i64 0, .int .i64 0, .int .i64 0, .int .i64 0, .int .i64 0, .int .i64 0, .int .i64 0, .int .i64 0, .int .i64 0, .int .i64 0, .int .i64 0, .bool false, .bool false, .int .i64 0, .int .i64 0, .int .i64 1])] 0 8 29 36 36 (w.heap.size + 2) #[.int .i64 0, .int .i64 0, .int .i64 0, .int .i64 0, .int .i64 0, .int .i64 0, .int .i64 0, .int .i64 0, .int .i64 0, .int .i64 0, .int .i64 0, .int .i64 0, .int .i64 0, .bool false, .bool false, .int .i64 0, .int .i64 0, .int .i64 0] #[.int .i64 0, .int .i64 0, .int .i64 0, .int .i64 0, .int .i64 0, .int .i64 0, .int .i64 0, .int .i64 0, .int .i64 0, .int .i64 0, .int .i64 0, .int .i64 0, .int .i64 0, .bool false, .bool false, .int .i64 0, .int .i64 0, .int .i64 1] rfl rfl rfl (by kernel_rfl) (by kernel_rfl) (by kernel_rfl) rfl rfl (by decide) (by kernel_rfl) (by kernel_rfl) (by decide) hGR3.out (by kernel_rfl) (by kernel_rfl) (by first | kernel_rfl | simp [Value.oneCell']) (by kernel_rfl) ?stepsN_20 ?finN_20
    case stepsN_20 =>
      refine ⟨?_, trivial⟩
      · refine ⟨rfl, fun v W ρ hC kc kf ks ki kd => ?_⟩
        simp [execOp, go_sem, kc, ]
        exact ⟨hC, Below.refl _ _, rfl⟩
    intro vN_20 WN_20 hBN_20 hgN_20 hall
    simp [upto, Act.put]
    clear hall
    have hEN_20 := hidS (hL3.out.trans (hBN_20 w.heap.size (by omega)))
    have hcN_20 := loadVar_blk (P := Try.prog) hgN_20 Try.underlying36 rfl (by kernel_rfl)
    clear hBN_20 hgN_20 hL3 hGF3 hGP3 hGR3 hGK3
    go_wp2_with fail
    exact bodyPost_ret (v := .agg #[.int .i64 0, .int .i64 0, .int .i64 0, .int .i64 0, .int .i64 0, .int .i64 0, .int .i64 0, .int .i64 0, .int .i64 0, .int .i64 0, .int .i64 0, .int .i64 0, .int .i64 0, .bool false, .bool false, .int .i64 0, .int .i64 0, .int .i64 1]) (results_cell Try.results16 rfl hcN_20) rfl ⟨by rw [EA.out, EC.out]; rfl, hEN_20.out⟩
  go_wp2_with fail
  refine (areTm_one w3.heap.size now _ (blk_cell (heap_newG w3 (.cells #[.int .i64 now] 2)) 0)).mono ?_
  rintro _ v9 ⟨rfl, hv9⟩
  rw [hv9]
  clear hv9 v9
  have hGF4 := hidS (blk_alloc hGF3.out (.cells #[.int .i64 now] 2))
  have hGP4 := hidS (blk_alloc hGP3.out (.cells #[.int .i64 now] 2))
  have hGR4 := hidS (blk_alloc hGR3.out (.cells #[.int .i64 now] 2))
  have hGK4 := hidS (blk_alloc hGK3.out (.cells #[.int .i64 now] 2))
  have hL4 := hidS (hL3.out.alloc hL3.out.size (.cells #[.int .i64 now] 2))
  clear hL3 hGF3 hGP3 hGR3 hGK3
  generalize w3.alloc (.cells #[.int .i64 now] 2) = w4 at hGF4 hGP4 hGR4 hGK4 hL4 ⊢
  cases ht : tmB now
  · have E0 : Hid ((isOfF f p b && tmB now) = false) := by show _ = _; rw [← EB.out, h0, h1, ht]; simp
    have EA := hidS (nextA_no E0.out)
    have EC := hidS (nextC_no E0.out)
    clear EB HT HR HO HS
    go_upto_region 3 with fail
    refine plain_into 1 _ [.is (.agg #[.int .i64 0, .int .i64 0, .int .i64 0, .int .i64 0, .int .i64 0, .int .i64 0, .int .i64 0, .int .i64 0, .int .i64 0, .int .i64 0, .int .i64 0, .int .i64 0, .int .i64 0, .bool false, .bool false, .int .i64 0, .int .i64 0, .int .i64 1])] 0 8 29 36 36 (w.heap.size + 2) #[.int .i64 0, .int .i64 0, .int .i64 0, .int .i64 0, .int .i64 0, .int .i64 0, .int .i64 0, .int .i64 0, .int .i64 0, .int .i64 0, .int .i64 0, .int .i64 0, .int .i64 0, .bool false, .bool false, .int .i64 0, .int .i64 0, .int .i64 0] #[.int .i64 0, .int .i64 0, .int .i64 0, .int .i64 0, .int .i64 0, .int .i64 0, .int .i64 0, .int .i64 0, .int .i64 0, .int .i64 0, .int .i64 0, .int .i64 0, .int .i64 0, .bool false, .bool false, .int .i64 0, .int .i64 0, .int .i64 1] rfl rfl rfl (by kernel_rfl) (by kernel_rfl) (by kernel_rfl) rfl rfl (by decide) (by kernel_rfl) (by kernel_rfl) (by decide) hGR4.out (by kernel_rfl) (by kernel_rfl) (by first | kernel_rfl | simp [Value.oneCell']) (by kernel_rfl) ?stepsN_21 ?finN_21
    case stepsN_21 =>
      refine ⟨?_, trivial⟩
      · refine ⟨rfl, fun v W ρ hC kc kf ks ki kd => ?_⟩
        simp [execOp, go_sem, kc, ]
        exact ⟨hC, Below.refl _ _, rfl⟩
    intro vN_21 WN_21 hBN_21 hgN_21 hall
    simp [upto, Act.put]
    clear hall
    have hEN_21 := hidS (hL4.out.trans (hBN_21 w.heap.size (by omega)))
    have hcN_21 := loadVar_blk (P := Try.prog) hgN_21 Try.underlying36 rfl (by kernel_rfl)
    clear hBN_21 hgN_21 hL4 hGF4 hGP4 hGR4 hGK4
    go_wp2_with fail
    exact bodyPost_ret (v := .agg #[.int .i64 0, .int .i64 0, .int .i64 0, .int .i64 0, .int .i64 0, .int .i64 0, .int .i64 0, .int .i64 0, .int .i64 0, .int .i64 0, .int .i64 0, .int .i64 0, .int .i64 0, .bool false, .bool false, .int .i64 0, .int .i64 0, .int .i64 1]) (results_cell Try.results16 rfl hcN_21) rfl ⟨by rw [EA.out, EC.out]; rfl, hEN_21.out⟩
  have E1 : Hid (isOfF f p b = true) := by show _ = _; rw [← EB.out, h0, h1]; rfl
  have hA := hidS (fun hc => flow_next E1.out ht hc)
  have hCN := hidS (code_next E1.out)
  have hEC := hidS (nextC_yes (show (isOfF f p b && tmB now) = true by rw [E1.out, ht]; rfl))
  have hEA := hidS (nextA_yes (show (isOfF f p b && tmB now) = true by rw [E1.out, ht]; rfl))
  have hcr := count_right h0
  have HL := hidS (fun s W => ledTo_any f s b now W (tmB_iff.1 ht) (by omega))
  have hFN := hidS (fun (hc : ¬ codeX f p b = 0) => flowX_no now hc)
  clear h0 h1 ht hcr EB HT HR HO
  go_upto_region 4 with fail
  have cP0 := blk_cell hGP4.out 0
  have cP1 := blk_cell hGP4.out 1
  have cP2 := blk_cell hGP4.out 2
  have cP3 := blk_cell hGP4.out 3
  have cP4 := blk_cell hGP4.out 4
  have cP5 := blk_cell hGP4.out 5
  have cP6 := blk_cell hGP4.out 6
  have cP7 := blk_cell hGP4.out 7
  have cP8 := blk_cell hGP4.out 8
  have cP9 := blk_cell hGP4.out 9
  simp at cP0 cP1 cP2 cP3 cP4 cP5 cP6 cP7 cP8 cP9
  go_wp2_with (first | refine wpList_load_blk 51 (.tmp 9) rfl rfl rfl hGK4.out Try.underlying51 rfl (by kernel_rfl) ?_)
  refine (HS.out _).mono ?_
  rintro _ w5 ⟨rfl, hb5⟩
  clear cP0 cP1 cP2 cP3 cP4 cP5 cP6 cP7 cP8 cP9
  have hGF5 := hidS (blk_later hGF4.out hb5)
  have hGP5 := hidS (blk_later hGP4.out hb5)
  have hGR5 := hidS (blk_later hGR4.out hb5)
  have hGK5 := hidS (blk_later hGK4.out hb5)
  have hL5 := hidS (hL4.out.trans (hb5.mono hL4.out.size))
  clear hb5 hL4 hGF4 hGP4 hGR4 hGK4
  generalize toZ f.orig.proto f.state b p.flags = s at *
  have cK0 := blk_cell hGK5.out 0
  have cK1 := blk_cell hGK5.out 1
  have cK2 := blk_cell hGK5.out 2
  have cK3 := blk_cell hGK5.out 3
  have cK4 := blk_cell hGK5.out 4
  have cK5 := blk_cell hGK5.out 5
  have cK6 := blk_cell hGK5.out 6
  have cK7 := blk_cell hGK5.out 7
  have cK8 := blk_cell hGK5.out 8
  have cK9 := blk_cell hGK5.out 9
  have cK10 := blk_cell hGK5.out 10
  have cK11 := blk_cell hGK5.out 11
  have cK12 := blk_cell hGK5.out 12
  have cK13 := blk_cell hGK5.out 13
  have cK14 := blk_cell hGK5.out 14
  have cK15 := blk_cell hGK5.out 15
  have cK16 := blk_cell hGK5.out 16
  simp at cK0 cK1 cK2 cK3 cK4 cK5 cK6 cK7 cK8 cK9 cK10 cK11 cK12 cK13 cK14 cK15 cK16
  by_cases hs : s = -1
  · have E : Hid (codeX f p b = 10) := hidS (hCN.out.trans (if_pos hs))
    have q : (s == -1) = true := beq_iff_eq.2 hs
    clear hs
    have EF : Hid (nextA f p b now = zeroFl) := hidS (hEA.out.trans (hFN.out (by rw [E.out]; decide)))
    go_upto_region 6 with fail
    clear cK0 cK1 cK2 cK3 cK4 cK5 cK6 cK7 cK8 cK9 cK10 cK11 cK12 cK13 cK14 cK15 cK16
    refine plain_into 1 _ [.is (.agg #[.int .i64 0, .int .i64 0, .int .i64 0, .int .i64 0, .int .i64 0, .int .i64 0, .int .i64 0, .int .i64 0, .int .i64 0, .int .i64 0, .int .i64 0, .int .i64 0, .int .i64 0, .bool false, .bool false, .int .i64 0, .int .i64 0, .int .i64 10])] 0 8 37 36 36 (w.heap.size + 2) #[.int .i64 0, .int .i64 0, .int .i64 0, .int .i64 0, .int .i64 0, .int .i64 0, .int .i64 0, .int .i64 0, .int .i64 0, .int .i64 0, .int .i64 0, .int .i64 0, .int .i64 0, .bool false, .bool false, .int .i64 0, .int .i64 0, .int .i64 0] #[.int .i64 0, .int .i64 0, .int .i64 0, .int .i64 0, .int .i64 0, .int .i64 0, .int .i64 0, .int .i64 0, .int .i64 0, .int .i64 0, .int .i64 0, .int .i64 0, .int .i64 0, .bool false, .bool false, .int .i64 0, .int .i64 0, .int .i64 10] rfl rfl rfl (by kernel_rfl) (by kernel_rfl) (by kernel_rfl) rfl rfl (by decide) (by kernel_rfl) (by kernel_rfl) (by decide) hGR5.out (by kernel_rfl) (by kernel_rfl) (by first | kernel_rfl | simp [Value.oneCell']) (by kernel_rfl) ?stepsS_22 ?finS_22
    case stepsS_22 =>
      refine ⟨?_, trivial⟩
      · refine ⟨rfl, fun v W ρ hC kc kf ks ki kd => ?_⟩
        simp [execOp, go_sem, kc, ]
        exact ⟨hC, Below.refl _ _, rfl⟩
    intro vS_22 WS_22 hBS_22 hgS_22 hall
    simp [upto, Act.put]
    clear hall
    have hES_22 := hidS (hL5.out.trans (hBS_22 w.heap.size (by omega)))
    have hcS_22 := loadVar_blk (P := Try.prog) hgS_22 Try.underlying36 rfl (by kernel_rfl)
    clear hBS_22 hgS_22 hL5 hGF5 hGP5 hGR5 hGK5
    go_wp2_with fail
    exact bodyPost_ret (v := .agg #[.int .i64 0, .int .i64 0, .int .i64 0, .int .i64 0, .int .i64 0, .int .i64 0, .int .i64 0, .int .i64 0, .int .i64 0, .int .i64 0, .int .i64 0, .int .i64 0, .int .i64 0, .bool false, .bool false, .int .i64 0, .int .i64 0, .int .i64 10]) (results_cell Try.results16 rfl hcS_22) rfl ⟨by rw [EF.out, hEC.out, E.out]; rfl, hES_22.out⟩
  have q : (s == -1) = false := beq_eq_false_iff_ne.2 hs
  have hC2 := hidS (hCN.out.trans (if_neg hs))
  clear hs hCN
  by_cases hc : f.count = 1000000
  · have E : Hid (codeX f p b = 9) := hidS (hC2.out.trans (if_pos hc))
    have q2 : (f.count == 1000000) = true := beq_iff_eq.2 hc
    clear hc
    have EF : Hid (nextA f p b now = zeroFl) := hidS (hEA.out.trans (hFN.out (by rw [E.out]; decide)))
    go_upto_region 8 with fail
    clear cK0 cK1 cK2 cK3 cK4 cK5 cK6 cK7 cK8 cK9 cK10 cK11 cK12 cK13 cK14 cK15 cK16
    refine plain_into 1 _ [.is (.agg #[.int .i64 0, .int .i64 0, .int .i64 0, .int .i64 0, .int .i64 0, .int .i64 0, .int .i64 0, .int .i64 0, .int .i64 0, .int .i64 0, .int .i64 0, .int .i64 0, .int .i64 0, .bool false, .bool false, .int .i64 0, .int .i64 0, .int .i64 9])] 0 8 42 36 36 (w.heap.size + 2) #[.int .i64 0, .int .i64 0, .int .i64 0, .int .i64 0, .int .i64 0, .int .i64 0, .int .i64 0, .int .i64 0, .int .i64 0, .int .i64 0, .int .i64 0, .int .i64 0, .int .i64 0, .bool false, .bool false, .int .i64 0, .int .i64 0, .int .i64 0] #[.int .i64 0, .int .i64 0, .int .i64 0, .int .i64 0, .int .i64 0, .int .i64 0, .int .i64 0, .int .i64 0, .int .i64 0, .int .i64 0, .int .i64 0, .int .i64 0, .int .i64 0, .bool false, .bool false, .int .i64 0, .int .i64 0, .int .i64 9] rfl rfl rfl (by kernel_rfl) (by kernel_rfl) (by kernel_rfl) rfl rfl (by decide) (by kernel_rfl) (by kernel_rfl) (by decide) hGR5.out (by kernel_rfl) (by kernel_rfl) (by first | kernel_rfl | simp [Value.oneCell']) (by kernel_rfl) ?stepsS_23 ?finS_23
    case stepsS_23 =>
      refine ⟨?_, trivial⟩
      · refine ⟨rfl, fun v W ρ hC kc kf ks ki kd => ?_⟩
        simp [execOp, go_sem, kc, ]
        exact ⟨hC, Below.refl _ _, rfl⟩
    intro vS_23 WS_23 hBS_23 hgS_23 hall
    simp [upto, Act.put]
    clear hall
    have hES_23 := hidS (hL5.out.trans (hBS_23 w.heap.size (by omega)))
    have hcS_23 := loadVar_blk (P := Try.prog) hgS_23 Try.underlying36 rfl (by kernel_rfl)
    clear hBS_23 hgS_23 hL5 hGF5 hGP5 hGR5 hGK5
    go_wp2_with fail
    exact bodyPost_ret (v := .agg #[.int .i64 0, .int .i64 0, .int .i64 0, .int .i64 0, .int .i64 0, .int .i64 0, .int .i64 0, .int .i64 0, .int .i64 0, .int .i64 0, .int .i64 0, .int .i64 0, .int .i64 0, .bool false, .bool false, .int .i64 0, .int .i64 0, .int .i64 9]) (results_cell Try.results16 rfl hcS_23) rfl ⟨by rw [EF.out, hEC.out, E.out]; rfl, hES_23.out⟩
  have E : Hid (codeX f p b = 0) := hidS (hC2.out.trans (if_neg hc))
  have q2 : (f.count == 1000000) = false := beq_eq_false_iff_ne.2 hc
  have EF := hidS (hA.out E.out)
  clear hc
  go_upto_region 9 with fail
  clear cK0 cK1 cK2 cK3 cK4 cK5 cK6 cK7 cK8 cK9 cK10 cK11 cK12 cK13 cK14 cK15 cK16
  have HFl := hidS (fun W => flowOf_any (counted (ledTo f s b) now) W)
  refine plain_into 7 _ [.is (.agg #[.int .i64 f.orig.proto, .int .i64 f.orig.src, .int .i64 f.orig.sport, .int .i64 f.orig.dst, .int .i64 f.orig.dport, .int .i64 f.orig.kind, .int .i64 f.back.proto, .int .i64 f.back.src, .int .i64 f.back.sport, .int .i64 f.back.dst, .int .i64 f.back.dport, .int .i64 f.back.kind, .int .i64 f.state, .bool f.seen, .bool f.sure, .int .i64 f.till, .int .i64 f.count]), .is (.int .i64 s), .is (.bool b), .is (.int .i64 now), .is (.agg #[.int .i64 (counted (ledTo f s b) now).orig.proto, .int .i64 (counted (ledTo f s b) now).orig.src, .int .i64 (counted (ledTo f s b) now).orig.sport, .int .i64 (counted (ledTo f s b) now).orig.dst, .int .i64 (counted (ledTo f s b) now).orig.dport, .int .i64 (counted (ledTo f s b) now).orig.kind, .int .i64 (counted (ledTo f s b) now).back.proto, .int .i64 (counted (ledTo f s b) now).back.src, .int .i64 (counted (ledTo f s b) now).back.sport, .int .i64 (counted (ledTo f s b) now).back.dst, .int .i64 (counted (ledTo f s b) now).back.dport, .int .i64 (counted (ledTo f s b) now).back.kind, .int .i64 (counted (ledTo f s b) now).state, .bool (counted (ledTo f s b) now).seen, .bool (counted (ledTo f s b) now).sure, .int .i64 (counted (ledTo f s b) now).till, .int .i64 (counted (ledTo f s b) now).count]), .is (.agg #[.int .i64 (counted (ledTo f s b) now).orig.proto, .int .i64 (counted (ledTo f s b) now).orig.src, .int .i64 (counted (ledTo f s b) now).orig.sport, .int .i64 (counted (ledTo f s b) now).orig.dst, .int .i64 (counted (ledTo f s b) now).orig.dport, .int .i64 (counted (ledTo f s b) now).orig.kind, .int .i64 (counted (ledTo f s b) now).back.proto, .int .i64 (counted (ledTo f s b) now).back.src, .int .i64 (counted (ledTo f s b) now).back.sport, .int .i64 (counted (ledTo f s b) now).back.dst, .int .i64 (counted (ledTo f s b) now).back.dport, .int .i64 (counted (ledTo f s b) now).back.kind, .int .i64 (counted (ledTo f s b) now).state, .bool (counted (ledTo f s b) now).seen, .bool (counted (ledTo f s b) now).sure, .int .i64 (counted (ledTo f s b) now).till, .int .i64 (counted (ledTo f s b) now).count]), .is (.agg #[.int .i64 (counted (ledTo f s b) now).orig.proto, .int .i64 (counted (ledTo f s b) now).orig.src, .int .i64 (counted (ledTo f s b) now).orig.sport, .int .i64 (counted (ledTo f s b) now).orig.dst, .int .i64 (counted (ledTo f s b) now).orig.dport, .int .i64 (counted (ledTo f s b) now).orig.kind, .int .i64 (counted (ledTo f s b) now).back.proto, .int .i64 (counted (ledTo f s b) now).back.src, .int .i64 (counted (ledTo f s b) now).back.sport, .int .i64 (counted (ledTo f s b) now).back.dst, .int .i64 (counted (ledTo f s b) now).back.dport, .int .i64 (counted (ledTo f s b) now).back.kind, .int .i64 (counted (ledTo f s b) now).state, .bool (counted (ledTo f s b) now).seen, .bool (counted (ledTo f s b) now).sure, .int .i64 (counted (ledTo f s b) now).till, .int .i64 (counted (ledTo f s b) now).count, .int .i64 0])] 6 8 49 36 36 (w.heap.size + 2) #[.int .i64 0, .int .i64 0, .int .i64 0, .int .i64 0, .int .i64 0, .int .i64 0, .int .i64 0, .int .i64 0, .int .i64 0, .int .i64 0, .int .i64 0, .int .i64 0, .int .i64 0, .bool false, .bool false, .int .i64 0, .int .i64 0, .int .i64 0] #[.int .i64 (counted (ledTo f s b) now).orig.proto, .int .i64 (counted (ledTo f s b) now).orig.src, .int .i64 (counted (ledTo f s b) now).orig.sport, .int .i64 (counted (ledTo f s b) now).orig.dst, .int .i64 (counted (ledTo f s b) now).orig.dport, .int .i64 (counted (ledTo f s b) now).orig.kind, .int .i64 (counted (ledTo f s b) now).back.proto, .int .i64 (counted (ledTo f s b) now).back.src, .int .i64 (counted (ledTo f s b) now).back.sport, .int .i64 (counted (ledTo f s b) now).back.dst, .int .i64 (counted (ledTo f s b) now).back.dport, .int .i64 (counted (ledTo f s b) now).back.kind, .int .i64 (counted (ledTo f s b) now).state, .bool (counted (ledTo f s b) now).seen, .bool (counted (ledTo f s b) now).sure, .int .i64 (counted (ledTo f s b) now).till, .int .i64 (counted (ledTo f s b) now).count, .int .i64 0] rfl rfl rfl (by kernel_rfl) (by kernel_rfl) (by kernel_rfl) rfl rfl (by decide) (by kernel_rfl) (by kernel_rfl) (by decide) hGR5.out (by kernel_rfl) (by kernel_rfl) (by first | kernel_rfl | simp [Value.oneCell']) (by kernel_rfl) ?stepsY_24 ?finY_24
  case stepsY_24 =>
    refine ⟨?_, ?_, ?_, ?_, ?_, ?_, ?_, trivial⟩
    · refine ⟨rfl, fun v W ρ hC kc kf ks ki kd => ?_⟩
      have t9 : ρ (.tmp 9) = .pointer (some ⟨gK, 0, none⟩) := ki 9 (by decide)
      simp only [execOp, t9, Sem.run_bind, loadAt_part (o := 0) [.int .i64 f.orig.proto, .int .i64 f.orig.src, .int .i64 f.orig.sport, .int .i64 f.orig.dst, .int .i64 f.orig.dport, .int .i64 f.orig.kind, .int .i64 f.back.proto, .int .i64 f.back.src, .int .i64 f.back.sport, .int .i64 f.back.dst, .int .i64 f.back.dport, .int .i64 f.back.kind, .int .i64 f.state, .bool f.seen, .bool f.sure, .int .i64 f.till, .int .i64 f.count] (blk_later hGK5.out hC) rfl Try.underlying51 rfl (by kernel_rfl), Result.andThen_ok, Sem.run_pure]
      exact ⟨hC, Below.refl _ _, rfl⟩
    · refine ⟨rfl, fun v W ρ hC kc kf ks ki kd => ?_⟩
      have t10 : ρ (.tmp 10) = .int .i64 s := ki 10 (by decide)
      simp [execOp, go_sem, kc, t10]
      exact ⟨hC, Below.refl _ _, rfl⟩
    · refine ⟨rfl, fun v W ρ hC kc kf ks ki kd => ?_⟩
      have t2 : ρ (.tmp 2) = .bool b := ki 2 (by decide)
      simp [execOp, go_sem, kc, t2]
      exact ⟨hC, Below.refl _ _, rfl⟩
    · refine ⟨rfl, fun v W ρ hC kc kf ks ki kd => ?_⟩
      have t3 : ρ (.tmp 3) = .int .i64 now := ki 3 (by decide)
      simp [execOp, go_sem, kc, t3]
      exact ⟨hC, Below.refl _ _, rfl⟩
    · refine ⟨rfl, fun v W ρ hC kc kf ks ki kd => ?_⟩
      have d0 : v 0 = .agg #[.int .i64 f.orig.proto, .int .i64 f.orig.src, .int .i64 f.orig.sport, .int .i64 f.orig.dst, .int .i64 f.orig.dport, .int .i64 f.orig.kind, .int .i64 f.back.proto, .int .i64 f.back.src, .int .i64 f.back.sport, .int .i64 f.back.dst, .int .i64 f.back.dport, .int .i64 f.back.kind, .int .i64 f.state, .bool f.seen, .bool f.sure, .int .i64 f.till, .int .i64 f.count] := by first | exact kd _ (mem0 rfl) rfl | exact kd _ (mem1 rfl) rfl | exact kd _ (mem2 rfl) rfl | exact kd _ (mem3 rfl) rfl | exact kd _ (mem4 rfl) rfl | exact kd _ (mem5 rfl) rfl | exact kd _ (Array.mem_of_getElem? (i := 6) rfl) rfl | exact kd _ (Array.mem_of_getElem? (i := 7) rfl) rfl
      have t43 : ρ (.tmp 43) = .agg #[.int .i64 f.orig.proto, .int .i64 f.orig.src, .int .i64 f.orig.sport, .int .i64 f.orig.dst, .int .i64 f.orig.dport, .int .i64 f.orig.kind, .int .i64 f.back.proto, .int .i64 f.back.src, .int .i64 f.back.sport, .int .i64 f.back.dst, .int .i64 f.back.dport, .int .i64 f.back.kind, .int .i64 f.state, .bool f.seen, .bool f.sure, .int .i64 f.till, .int .i64 f.count] := (ks 0 43 (by decide) rfl).trans d0
      have d1 : v 1 = .int .i64 s := by first | exact kd _ (mem0 rfl) rfl | exact kd _ (mem1 rfl) rfl | exact kd _ (mem2 rfl) rfl | exact kd _ (mem3 rfl) rfl | exact kd _ (mem4 rfl) rfl | exact kd _ (mem5 rfl) rfl | exact kd _ (Array.mem_of_getElem? (i := 6) rfl) rfl | exact kd _ (Array.mem_of_getElem? (i := 7) rfl) rfl
      have t44 : ρ (.tmp 44) = .int .i64 s := (ks 1 44 (by decide) rfl).trans d1
      have d2 : v 2 = .bool b := by first | exact kd _ (mem0 rfl) rfl | exact kd _ (mem1 rfl) rfl | exact kd _ (mem2 rfl) rfl | exact kd _ (mem3 rfl) rfl | exact kd _ (mem4 rfl) rfl | exact kd _ (mem5 rfl) rfl | exact kd _ (Array.mem_of_getElem? (i := 6) rfl) rfl | exact kd _ (Array.mem_of_getElem? (i := 7) rfl) rfl
      have t45 : ρ (.tmp 45) = .bool b := (ks 2 45 (by decide) rfl).trans d2
      have d3 : v 3 = .int .i64 now := by first | exact kd _ (mem0 rfl) rfl | exact kd _ (mem1 rfl) rfl | exact kd _ (mem2 rfl) rfl | exact kd _ (mem3 rfl) rfl | exact kd _ (mem4 rfl) rfl | exact kd _ (mem5 rfl) rfl | exact kd _ (Array.mem_of_getElem? (i := 6) rfl) rfl | exact kd _ (Array.mem_of_getElem? (i := 7) rfl) rfl
      have t46 : ρ (.tmp 46) = .int .i64 now := (ks 3 46 (by decide) rfl).trans d3
      simp [execOp, go_sem, kc, t43, t44, t45, t46, kf]
      exact Calls.mono (HL.out s W) (fun e x h => ⟨_, h.1, hC.trans (h.2.mono hC.size), h.2, rfl⟩)
    · refine ⟨rfl, fun v W ρ hC kc kf ks ki kd => ?_⟩
      have d4 : v 4 = .agg #[.int .i64 (counted (ledTo f s b) now).orig.proto, .int .i64 (counted (ledTo f s b) now).orig.src, .int .i64 (counted (ledTo f s b) now).orig.sport, .int .i64 (counted (ledTo f s b) now).orig.dst, .int .i64 (counted (ledTo f s b) now).orig.dport, .int .i64 (counted (ledTo f s b) now).orig.kind, .int .i64 (counted (ledTo f s b) now).back.proto, .int .i64 (counted (ledTo f s b) now).back.src, .int .i64 (counted (ledTo f s b) now).back.sport, .int .i64 (counted (ledTo f s b) now).back.dst, .int .i64 (counted (ledTo f s b) now).back.dport, .int .i64 (counted (ledTo f s b) now).back.kind, .int .i64 (counted (ledTo f s b) now).state, .bool (counted (ledTo f s b) now).seen, .bool (counted (ledTo f s b) now).sure, .int .i64 (counted (ledTo f s b) now).till, .int .i64 (counted (ledTo f s b) now).count] := by first | exact kd _ (mem0 rfl) rfl | exact kd _ (mem1 rfl) rfl | exact kd _ (mem2 rfl) rfl | exact kd _ (mem3 rfl) rfl | exact kd _ (mem4 rfl) rfl | exact kd _ (mem5 rfl) rfl | exact kd _ (Array.mem_of_getElem? (i := 6) rfl) rfl | exact kd _ (Array.mem_of_getElem? (i := 7) rfl) rfl
      have t47 : ρ (.tmp 47) = .agg #[.int .i64 (counted (ledTo f s b) now).orig.proto, .int .i64 (counted (ledTo f s b) now).orig.src, .int .i64 (counted (ledTo f s b) now).orig.sport, .int .i64 (counted (ledTo f s b) now).orig.dst, .int .i64 (counted (ledTo f s b) now).orig.dport, .int .i64 (counted (ledTo f s b) now).orig.kind, .int .i64 (counted (ledTo f s b) now).back.proto, .int .i64 (counted (ledTo f s b) now).back.src, .int .i64 (counted (ledTo f s b) now).back.sport, .int .i64 (counted (ledTo f s b) now).back.dst, .int .i64 (counted (ledTo f s b) now).back.dport, .int .i64 (counted (ledTo f s b) now).back.kind, .int .i64 (counted (ledTo f s b) now).state, .bool (counted (ledTo f s b) now).seen, .bool (counted (ledTo f s b) now).sure, .int .i64 (counted (ledTo f s b) now).till, .int .i64 (counted (ledTo f s b) now).count] := (ks 4 47 (by decide) rfl).trans d4
      simp [execOp, go_sem, kc, t47, kf]
      exact Calls.mono (HFl.out W) (fun e x h => ⟨_, h.1, hC.trans (h.2.mono hC.size), h.2, rfl⟩)
    · refine ⟨rfl, fun v W ρ hC kc kf ks ki kd => ?_⟩
      have d5 : v 5 = .agg #[.int .i64 (counted (ledTo f s b) now).orig.proto, .int .i64 (counted (ledTo f s b) now).orig.src, .int .i64 (counted (ledTo f s b) now).orig.sport, .int .i64 (counted (ledTo f s b) now).orig.dst, .int .i64 (counted (ledTo f s b) now).orig.dport, .int .i64 (counted (ledTo f s b) now).orig.kind, .int .i64 (counted (ledTo f s b) now).back.proto, .int .i64 (counted (ledTo f s b) now).back.src, .int .i64 (counted (ledTo f s b) now).back.sport, .int .i64 (counted (ledTo f s b) now).back.dst, .int .i64 (counted (ledTo f s b) now).back.dport, .int .i64 (counted (ledTo f s b) now).back.kind, .int .i64 (counted (ledTo f s b) now).state, .bool (counted (ledTo f s b) now).seen, .bool (counted (ledTo f s b) now).sure, .int .i64 (counted (ledTo f s b) now).till, .int .i64 (counted (ledTo f s b) now).count] := by first | exact kd _ (mem0 rfl) rfl | exact kd _ (mem1 rfl) rfl | exact kd _ (mem2 rfl) rfl | exact kd _ (mem3 rfl) rfl | exact kd _ (mem4 rfl) rfl | exact kd _ (mem5 rfl) rfl | exact kd _ (Array.mem_of_getElem? (i := 6) rfl) rfl | exact kd _ (Array.mem_of_getElem? (i := 7) rfl) rfl
      have t48 : ρ (.tmp 48) = .agg #[.int .i64 (counted (ledTo f s b) now).orig.proto, .int .i64 (counted (ledTo f s b) now).orig.src, .int .i64 (counted (ledTo f s b) now).orig.sport, .int .i64 (counted (ledTo f s b) now).orig.dst, .int .i64 (counted (ledTo f s b) now).orig.dport, .int .i64 (counted (ledTo f s b) now).orig.kind, .int .i64 (counted (ledTo f s b) now).back.proto, .int .i64 (counted (ledTo f s b) now).back.src, .int .i64 (counted (ledTo f s b) now).back.sport, .int .i64 (counted (ledTo f s b) now).back.dst, .int .i64 (counted (ledTo f s b) now).back.dport, .int .i64 (counted (ledTo f s b) now).back.kind, .int .i64 (counted (ledTo f s b) now).state, .bool (counted (ledTo f s b) now).seen, .bool (counted (ledTo f s b) now).sure, .int .i64 (counted (ledTo f s b) now).till, .int .i64 (counted (ledTo f s b) now).count] := (ks 5 48 (by decide) rfl).trans d5
      simp [execOp, go_sem, kc, t48]
      exact ⟨hC, Below.refl _ _, rfl⟩
  intro vY_24 WY_24 hBY_24 hgY_24 hall
  simp [upto, Act.put]
  clear hall
  have hEY_24 := hidS (hL5.out.trans (hBY_24 w.heap.size (by omega)))
  have hcY_24 := loadVar_blk (P := Try.prog) hgY_24 Try.underlying36 rfl (by kernel_rfl)
  clear hBY_24 hgY_24 hL5 hGF5 hGP5 hGR5 hGK5
  go_wp2_with fail
  exact bodyPost_ret (v := .agg #[.int .i64 (counted (ledTo f s b) now).orig.proto, .int .i64 (counted (ledTo f s b) now).orig.src, .int .i64 (counted (ledTo f s b) now).orig.sport, .int .i64 (counted (ledTo f s b) now).orig.dst, .int .i64 (counted (ledTo f s b) now).orig.dport, .int .i64 (counted (ledTo f s b) now).orig.kind, .int .i64 (counted (ledTo f s b) now).back.proto, .int .i64 (counted (ledTo f s b) now).back.src, .int .i64 (counted (ledTo f s b) now).back.sport, .int .i64 (counted (ledTo f s b) now).back.dst, .int .i64 (counted (ledTo f s b) now).back.dport, .int .i64 (counted (ledTo f s b) now).back.kind, .int .i64 (counted (ledTo f s b) now).state, .bool (counted (ledTo f s b) now).seen, .bool (counted (ledTo f s b) now).sure, .int .i64 (counted (ledTo f s b) now).till, .int .i64 (counted (ledTo f s b) now).count, .int .i64 0]) (results_cell Try.results16 rfl hcY_24) rfl ⟨by rw [EF.out, hEC.out, E.out], hEY_24.out⟩
end Go.Proofs.Ytbhemimhmkgfiaa
