/- Proved here: impl.FlowNew answers as the plain function; all old memory stays (no conditions but those that stand there). -/
import Derived.Test.YtbhemimhmkgfiaaFlowI2
import Derived.Test.YtbhemimhmkgfiaaFlowFacts
import Derived.Test.YtbhemimhmkgfiaaInvI
namespace Go.Proofs.Ytbhemimhmkgfiaa
open Go.ChangeShapes Go.WideShapes Go.ChangeAt Go.RowKit
set_option linter.unusedVariables false
set_option linter.unusedSimpArgs false
set_option maxRecDepth 100000

set_option maxHeartbeats 8000000 in
theorem implFN_any (p : Pk) (g : Tp) (now : Int) (w : World) (hs : p.body.size ≤ maxLen) :
    Calls Try.prog 13 #[.agg #[.int .i64 p.src, .int .i64 p.dst, .int .i64 p.proto, .int .i64 p.a, .int .i64 p.b, .int .i64 p.kind, .int .i64 p.flags, .int .i64 p.seq, .int .i64 p.ack, .string p.body], .agg #[.int .i64 g.proto, .int .i64 g.src, .int .i64 g.sport, .int .i64 g.dst, .int .i64 g.dport, .int .i64 g.kind], .int .i64 now] w fun e w' => e = .returned (.agg #[.int .i64 (newA p g now).orig.proto, .int .i64 (newA p g now).orig.src, .int .i64 (newA p g now).orig.sport, .int .i64 (newA p g now).orig.dst, .int .i64 (newA p g now).orig.dport, .int .i64 (newA p g now).orig.kind, .int .i64 (newA p g now).back.proto, .int .i64 (newA p g now).back.src, .int .i64 (newA p g now).back.sport, .int .i64 (newA p g now).back.dst, .int .i64 (newA p g now).back.dport, .int .i64 (newA p g now).back.kind, .int .i64 (newA p g now).state, .bool (newA p g now).seen, .bool (newA p g now).sure, .int .i64 (newA p g now).till, .int .i64 (newA p g now).count, .int .i64 (newC p g now)]) ∧ Below w.heap.size w w' := by
  have EB := hidS (may_new p g now)
  have HT := hidS (fun W => implTOf_any p W hs)
  have HM := hidS (fun W => mayGoAs_any (ofAns p) g W)
  have HI := hidS (fun W => implInv_any g W)
  clear hs
  have hGP0 : Hid ((((w.alloc (.cells #[.int .i64 p.src, .int .i64 p.dst, .int .i64 p.proto, .int .i64 p.a, .int .i64 p.b, .int .i64 p.kind, .int .i64 p.flags, .int .i64 p.seq, .int .i64 p.ack, .string p.body] 38)).alloc (.cells #[.int .i64 g.proto, .int .i64 g.src, .int .i64 g.sport, .int .i64 g.dst, .int .i64 g.dport, .int .i64 g.kind] 27)).alloc (.cells #[.int .i64 0, .int .i64 0, .int .i64 0, .int .i64 0, .int .i64 0, .int .i64 0, .int .i64 0, .int .i64 0, .int .i64 0, .int .i64 0, .int .i64 0, .int .i64 0, .int .i64 0, .bool false, .bool false, .int .i64 0, .int .i64 0, .int .i64 0] 36)).heap[w.heap.size]? = some (.cells #[.int .i64 p.src, .int .i64 p.dst, .int .i64 p.proto, .int .i64 p.a, .int .i64 p.b, .int .i64 p.kind, .int .i64 p.flags, .int .i64 p.seq, .int .i64 p.ack, .string p.body] 38)) := by
    show _ = _
    have := blk_alloc (blk_alloc (heap_newG w (.cells #[.int .i64 p.src, .int .i64 p.dst, .int .i64 p.proto, .int .i64 p.a, .int .i64 p.b, .int .i64 p.kind, .int .i64 p.flags, .int .i64 p.seq, .int .i64 p.ack, .string p.body] 38)) (.cells #[.int .i64 g.proto, .int .i64 g.src, .int .i64 g.sport, .int .i64 g.dst, .int .i64 g.dport, .int .i64 g.kind] 27)) (.cells #[.int .i64 0, .int .i64 0, .int .i64 0, .int .i64 0, .int .i64 0, .int .i64 0, .int .i64 0, .int .i64 0, .int .i64 0, .int .i64 0, .int .i64 0, .int .i64 0, .int .i64 0, .bool false, .bool false, .int .i64 0, .int .i64 0, .int .i64 0] 36)
    simpa using this
  have hGG0 : Hid ((((w.alloc (.cells #[.int .i64 p.src, .int .i64 p.dst, .int .i64 p.proto, .int .i64 p.a, .int .i64 p.b, .int .i64 p.kind, .int .i64 p.flags, .int .i64 p.seq, .int .i64 p.ack, .string p.body] 38)).alloc (.cells #[.int .i64 g.proto, .int .i64 g.src, .int .i64 g.sport, .int .i64 g.dst, .int .i64 g.dport, .int .i64 g.kind] 27)).alloc (.cells #[.int .i64 0, .int .i64 0, .int .i64 0, .int .i64 0, .int .i64 0, .int .i64 0, .int .i64 0, .int .i64 0, .int .i64 0, .int .i64 0, .int .i64 0, .int .i64 0, .int .i64 0, .bool false, .bool false, .int .i64 0, .int .i64 0, .int .i64 0] 36)).heap[w.heap.size + 1]? = some (.cells #[.int .i64 g.proto, .int .i64 g.src, .int .i64 g.sport, .int .i64 g.dst, .int .i64 g.dport, .int .i64 g.kind] 27)) := by
    show _ = _
    have := blk_alloc (heap_newG (w.alloc (.cells #[.int .i64 p.src, .int .i64 p.dst, .int .i64 p.proto, .int .i64 p.a, .int .i64 p.b, .int .i64 p.kind, .int .i64 p.flags, .int .i64 p.seq, .int .i64 p.ack, .string p.body] 38)) (.cells #[.int .i64 g.proto, .int .i64 g.src, .int .i64 g.sport, .int .i64 g.dst, .int .i64 g.dport, .int .i64 g.kind] 27)) (.cells #[.int .i64 0, .int .i64 0, .int .i64 0, .int .i64 0, .int .i64 0, .int .i64 0, .int .i64 0, .int .i64 0, .int .i64 0, .int .i64 0, .int .i64 0, .int .i64 0, .int .i64 0, .bool false, .bool false, .int .i64 0, .int .i64 0, .int .i64 0] 36)
    simpa using this
  have hGR0 : Hid ((((w.alloc (.cells #[.int .i64 p.src, .int .i64 p.dst, .int .i64 p.proto, .int .i64 p.a, .int .i64 p.b, .int .i64 p.kind, .int .i64 p.flags, .int .i64 p.seq, .int .i64 p.ack, .string p.body] 38)).alloc (.cells #[.int .i64 g.proto, .int .i64 g.src, .int .i64 g.sport, .int .i64 g.dst, .int .i64 g.dport, .int .i64 g.kind] 27)).alloc (.cells #[.int .i64 0, .int .i64 0, .int .i64 0, .int .i64 0, .int .i64 0, .int .i64 0, .int .i64 0, .int .i64 0, .int .i64 0, .int .i64 0, .int .i64 0, .int .i64 0, .int .i64 0, .bool false, .bool false, .int .i64 0, .int .i64 0, .int .i64 0] 36)).heap[w.heap.size + 2]? = some (.cells #[.int .i64 0, .int .i64 0, .int .i64 0, .int .i64 0, .int .i64 0, .int .i64 0, .int .i64 0, .int .i64 0, .int .i64 0, .int .i64 0, .int .i64 0, .int .i64 0, .int .i64 0, .bool false, .bool false, .int .i64 0, .int .i64 0, .int .i64 0] 36)) := by
    show _ = _
    have := heap_newG ((w.alloc (.cells #[.int .i64 p.src, .int .i64 p.dst, .int .i64 p.proto, .int .i64 p.a, .int .i64 p.b, .int .i64 p.kind, .int .i64 p.flags, .int .i64 p.seq, .int .i64 p.ack, .string p.body] 38)).alloc (.cells #[.int .i64 g.proto, .int .i64 g.src, .int .i64 g.sport, .int .i64 g.dst, .int .i64 g.dport, .int .i64 g.kind] 27)) (.cells #[.int .i64 0, .int .i64 0, .int .i64 0, .int .i64 0, .int .i64 0, .int .i64 0, .int .i64 0, .int .i64 0, .int .i64 0, .int .i64 0, .int .i64 0, .int .i64 0, .int .i64 0, .bool false, .bool false, .int .i64 0, .int .i64 0, .int .i64 0] 36)
    simpa using this
  have hL0 := hidS ((((Below.refl w.heap.size w).alloc (Nat.le_refl _) (.cells #[.int .i64 p.src, .int .i64 p.dst, .int .i64 p.proto, .int .i64 p.a, .int .i64 p.b, .int .i64 p.kind, .int .i64 p.flags, .int .i64 p.seq, .int .i64 p.ack, .string p.body] 38)).alloc (by simp) (.cells #[.int .i64 g.proto, .int .i64 g.src, .int .i64 g.sport, .int .i64 g.dst, .int .i64 g.dport, .int .i64 g.kind] 27)).alloc (by simp; omega) (.cells #[.int .i64 0, .int .i64 0, .int .i64 0, .int .i64 0, .int .i64 0, .int .i64 0, .int .i64 0, .int .i64 0, .int .i64 0, .int .i64 0, .int .i64 0, .int .i64 0, .int .i64 0, .bool false, .bool false, .int .i64 0, .int .i64 0, .int .i64 0] 36))
  go_enter Try.func13, Try.ntmps13
  go_upto_region 1 with fail
  generalize (((w.alloc (.cells #[.int .i64 p.src, .int .i64 p.dst, .int .i64 p.proto, .int .i64 p.a, .int .i64 p.b, .int .i64 p.kind, .int .i64 p.flags, .int .i64 p.seq, .int .i64 p.ack, .string p.body] 38)).alloc (.cells #[.int .i64 g.proto, .int .i64 g.src, .int .i64 g.sport, .int .i64 g.dst, .int .i64 g.dport, .int .i64 g.kind] 27)).alloc (.cells #[.int .i64 0, .int .i64 0, .int .i64 0, .int .i64 0, .int .i64 0, .int .i64 0, .int .i64 0, .int .i64 0, .int .i64 0, .int .i64 0, .int .i64 0, .int .i64 0, .int .i64 0, .bool false, .bool false, .int .i64 0, .int .i64 0, .int .i64 0] 36)) = w0 at hGP0 hGG0 hGR0 hL0 ⊢
  refine plain_struct 3 _ [.is (.agg #[.int .i64 p.src, .int .i64 p.dst, .int .i64 p.proto, .int .i64 p.a, .int .i64 p.b, .int .i64 p.kind, .int .i64 p.flags, .int .i64 p.seq, .int .i64 p.ack, .string p.body]), .is (.agg #[.int .i64 (ofAns p).proto, .int .i64 (ofAns p).src, .int .i64 (ofAns p).sport, .int .i64 (ofAns p).dst, .int .i64 (ofAns p).dport, .int .i64 (ofAns p).kind]), .blk w0.heap.size #[.int .i64 0, .int .i64 0, .int .i64 0, .int .i64 0, .int .i64 0, .int .i64 0] 27] 2 1 7 10 27 27 #[.int .i64 0, .int .i64 0, .int .i64 0, .int .i64 0, .int .i64 0, .int .i64 0] #[.int .i64 (ofAns p).proto, .int .i64 (ofAns p).src, .int .i64 (ofAns p).sport, .int .i64 (ofAns p).dst, .int .i64 (ofAns p).dport, .int .i64 (ofAns p).kind] rfl rfl rfl (by kernel_rfl) (by kernel_rfl) (by kernel_rfl) rfl rfl rfl rfl (by decide) (by decide) rfl rfl rfl (by first | kernel_rfl | simp [Value.oneCell']) (by kernel_rfl) ?stepsA_11 ?finA_11
  case stepsA_11 =>
    refine ⟨?_, ?_, ?_, trivial⟩
    · refine ⟨rfl, fun v W ρ hC kc kf ks ki kd => ?_⟩
      have t3 : ρ (.tmp 3) = .pointer (some ⟨w.heap.size, 0, none⟩) := ki 3 (by decide)
      have hg := blk_later hGP0.out hC
      have c0 := blk_cell hg 0
      have c1 := blk_cell hg 1
      have c2 := blk_cell hg 2
      have c3 := blk_cell hg 3
      have c4 := blk_cell hg 4
      have c5 := blk_cell hg 5
      have c6 := blk_cell hg 6
      have c7 := blk_cell hg 7
      have c8 := blk_cell hg 8
      have c9 := blk_cell hg 9
      simp at c0 c1 c2 c3 c4 c5 c6 c7 c8 c9
      simp [execOp, go_sem, kc, t3, c0, c1, c2, c3, c4, c5, c6, c7, c8, c9]
      exact ⟨hC, Below.refl _ _, rfl⟩
    · refine ⟨rfl, fun v W ρ hC kc kf ks ki kd => ?_⟩
      have d0 : v 0 = .agg #[.int .i64 p.src, .int .i64 p.dst, .int .i64 p.proto, .int .i64 p.a, .int .i64 p.b, .int .i64 p.kind, .int .i64 p.flags, .int .i64 p.seq, .int .i64 p.ack, .string p.body] := by first | exact kd _ (mem0 rfl) rfl | exact kd _ (mem1 rfl) rfl | exact kd _ (mem2 rfl) rfl | exact kd _ (mem3 rfl) rfl | exact kd _ (mem4 rfl) rfl | exact kd _ (mem5 rfl) rfl | exact kd _ (Array.mem_of_getElem? (i := 6) rfl) rfl | exact kd _ (Array.mem_of_getElem? (i := 7) rfl) rfl
      have t9 : ρ (.tmp 9) = .agg #[.int .i64 p.src, .int .i64 p.dst, .int .i64 p.proto, .int .i64 p.a, .int .i64 p.b, .int .i64 p.kind, .int .i64 p.flags, .int .i64 p.seq, .int .i64 p.ack, .string p.body] := (ks 0 9 (by decide) rfl).trans d0
      simp [execOp, go_sem, kc, t9, kf]
      exact Calls.mono (HT.out W) (fun e x h => ⟨_, h.1, hC.trans (h.2.mono hC.size), h.2, rfl⟩)
    · refine ⟨rfl, fun v W ρ hC kc kf ks ki kd => ?_⟩
      simp [execOp, go_sem]
      exact ⟨hC.alloc hC.size _, (Below.refl _ _).alloc (Nat.le_refl _) _, W.heap.size, rfl, hC.size, heap_newG _ _⟩
  intro vA_11 w1 gA hb hvB hnA hBk hall
  simp [upto, Act.put]
  rw [hvB]
  clear hall hvB
  have hGP1 := hidS (blk_later hGP0.out hb)
  have lAP := blk_lt hGP0.out
  have hGG1 := hidS (blk_later hGG0.out hb)
  have lAG := blk_lt hGG0.out
  have hGR1 := hidS (blk_later hGR0.out hb)
  have lAR := blk_lt hGR0.out
  have lwA := hL0.out.size
  have hL1 := hidS (hL0.out.trans (hb.mono hL0.out.size))
  have hGA1 := hidS hBk
  clear hb hBk hL0 hGP0 hGG0 hGR0
  have cA0 := blk_cell hGA1.out 0
  have cA1 := blk_cell hGA1.out 1
  have cA2 := blk_cell hGA1.out 2
  have cA3 := blk_cell hGA1.out 3
  have cA4 := blk_cell hGA1.out 4
  have cA5 := blk_cell hGA1.out 5
  simp at cA0 cA1 cA2 cA3 cA4 cA5
  have cG0 := blk_cell hGG1.out 0
  have cG1 := blk_cell hGG1.out 1
  have cG2 := blk_cell hGG1.out 2
  have cG3 := blk_cell hGG1.out 3
  have cG4 := blk_cell hGG1.out 4
  have cG5 := blk_cell hGG1.out 5
  simp at cG0 cG1 cG2 cG3 cG4 cG5
  go_wp2_with fail
  refine (HM.out _).mono ?_
  rintro _ w2 ⟨rfl, hb2⟩
  clear cA0 cA1 cA2 cA3 cA4 cA5 cG0 cG1 cG2 cG3 cG4 cG5
  have hGP2 := hidS (blk_later hGP1.out hb2)
  have hGG2 := hidS (blk_later hGG1.out hb2)
  have hGR2 := hidS (blk_later hGR1.out hb2)
  have hGA2 := hidS (blk_later hGA1.out hb2)
  have hL2 := hidS (hL1.out.trans (hb2.mono hL1.out.size))
  clear hb2 hL1 hGP1 hGG1 hGR1 hGA1
  cases h0 : mayB (ofAns p) g
  · have E0 : Hid (newB p g now = false) := by show _ = _; rw [← EB.out, h0]; simp
    have EA := hidS (newA_no E0.out)
    have EC := hidS (newC_no E0.out)
    clear EB HT HM HI
    go_upto_region 3 with fail
    refine plain_into 1 _ [.is (.agg #[.int .i64 0, .int .i64 0, .int .i64 0, .int .i64 0, .int .i64 0, .int .i64 0, .int .i64 0, .int .i64 0, .int .i64 0, .int .i64 0, .int .i64 0, .int .i64 0, .int .i64 0, .bool false, .bool false, .int .i64 0, .int .i64 0, .int .i64 1])] 0 6 21 36 36 (w.heap.size + 2) #[.int .i64 0, .int .i64 0, .int .i64 0, .int .i64 0, .int .i64 0, .int .i64 0, .int .i64 0, .int .i64 0, .int .i64 0, .int .i64 0, .int .i64 0, .int .i64 0, .int .i64 0, .bool false, .bool false, .int .i64 0, .int .i64 0, .int .i64 0] #[.int .i64 0, .int .i64 0, .int .i64 0, .int .i64 0, .int .i64 0, .int .i64 0, .int .i64 0, .int .i64 0, .int .i64 0, .int .i64 0, .int .i64 0, .int .i64 0, .int .i64 0, .bool false, .bool false, .int .i64 0, .int .i64 0, .int .i64 1] rfl rfl rfl (by kernel_rfl) (by kernel_rfl) (by kernel_rfl) rfl rfl (by decide) (by kernel_rfl) (by kernel_rfl) (by decide) hGR2.out (by kernel_rfl) (by kernel_rfl) (by first | kernel_rfl | simp [Value.oneCell']) (by kernel_rfl) ?stepsN_12 ?finN_12
    case stepsN_12 =>
      refine ⟨?_, trivial⟩
      · refine ⟨rfl, fun v W ρ hC kc kf ks ki kd => ?_⟩
        simp [execOp, go_sem, kc, ]
        exact ⟨hC, Below.refl _ _, rfl⟩
    intro vN_12 WN_12 hBN_12 hgN_12 hall
    simp [upto, Act.put]
    clear hall
    have hEN_12 := hidS (hL2.out.trans (hBN_12 w.heap.size (by omega)))
    have hcN_12 := loadVar_blk (P := Try.prog) hgN_12 Try.underlying36 rfl (by kernel_rfl)
    clear hBN_12 hgN_12 hL2 hGP2 hGG2 hGR2 hGA2
    go_wp2_with fail
    exact bodyPost_ret (v := .agg #[.int .i64 0, .int .i64 0, .int .i64 0, .int .i64 0, .int .i64 0, .int .i64 0, .int .i64 0, .int .i64 0, .int .i64 0, .int .i64 0, .int .i64 0, .int .i64 0, .int .i64 0, .bool false, .bool false, .int .i64 0, .int .i64 0, .int .i64 1]) (results_cell Try.results13 rfl hcN_12) rfl ⟨by rw [EA.out, EC.out]; rfl, hEN_12.out⟩
  go_wp2_with fail
  refine (areTm_one w2.heap.size now _ (blk_cell (heap_newG w2 (.cells #[.int .i64 now] 2)) 0)).mono ?_
  rintro _ v9 ⟨rfl, hv9⟩
  rw [hv9]
  clear hv9 v9
  have hGP3 := hidS (blk_alloc hGP2.out (.cells #[.int .i64 now] 2))
  have hGG3 := hidS (blk_alloc hGG2.out (.cells #[.int .i64 now] 2))
  have hGR3 := hidS (blk_alloc hGR2.out (.cells #[.int .i64 now] 2))
  have hGA3 := hidS (blk_alloc hGA2.out (.cells #[.int .i64 now] 2))
  have hL3 := hidS (hL2.out.alloc hL2.out.size (.cells #[.int .i64 now] 2))
  clear hL2 hGP2 hGG2 hGR2 hGA2
  generalize w2.alloc (.cells #[.int .i64 now] 2) = w3 at hGP3 hGG3 hGR3 hGA3 hL3 ⊢
  cases ht : tmB now
  · have E0 : Hid (newB p g now = false) := by show _ = _; rw [← EB.out, h0, ht]; simp
    have EA := hidS (newA_no E0.out)
    have EC := hidS (newC_no E0.out)
    clear EB HT HM HI
    go_upto_region 3 with fail
    refine plain_into 1 _ [.is (.agg #[.int .i64 0, .int .i64 0, .int .i64 0, .int .i64 0, .int .i64 0, .int .i64 0, .int .i64 0, .int .i64 0, .int .i64 0, .int .i64 0, .int .i64 0, .int .i64 0, .int .i64 0, .bool false, .bool false, .int .i64 0, .int .i64 0, .int .i64 1])] 0 6 21 36 36 (w.heap.size + 2) #[.int .i64 0, .int .i64 0, .int .i64 0, .int .i64 0, .int .i64 0, .int .i64 0, .int .i64 0, .int .i64 0, .int .i64 0, .int .i64 0, .int .i64 0, .int .i64 0, .int .i64 0, .bool false, .bool false, .int .i64 0, .int .i64 0, .int .i64 0] #[.int .i64 0, .int .i64 0, .int .i64 0, .int .i64 0, .int .i64 0, .int .i64 0, .int .i64 0, .int .i64 0, .int .i64 0, .int .i64 0, .int .i64 0, .int .i64 0, .int .i64 0, .bool false, .bool false, .int .i64 0, .int .i64 0, .int .i64 1] rfl rfl rfl (by kernel_rfl) (by kernel_rfl) (by kernel_rfl) rfl rfl (by decide) (by kernel_rfl) (by kernel_rfl) (by decide) hGR3.out (by kernel_rfl) (by kernel_rfl) (by first | kernel_rfl | simp [Value.oneCell']) (by kernel_rfl) ?stepsN_13 ?finN_13
    case stepsN_13 =>
      refine ⟨?_, trivial⟩
      · refine ⟨rfl, fun v W ρ hC kc kf ks ki kd => ?_⟩
        simp [execOp, go_sem, kc, ]
        exact ⟨hC, Below.refl _ _, rfl⟩
    intro vN_13 WN_13 hBN_13 hgN_13 hall
    simp [upto, Act.put]
    clear hall
    have hEN_13 := hidS (hL3.out.trans (hBN_13 w.heap.size (by omega)))
    have hcN_13 := loadVar_blk (P := Try.prog) hgN_13 Try.underlying36 rfl (by kernel_rfl)
    clear hBN_13 hgN_13 hL3 hGP3 hGG3 hGR3 hGA3
    go_wp2_with fail
    exact bodyPost_ret (v := .agg #[.int .i64 0, .int .i64 0, .int .i64 0, .int .i64 0, .int .i64 0, .int .i64 0, .int .i64 0, .int .i64 0, .int .i64 0, .int .i64 0, .int .i64 0, .int .i64 0, .int .i64 0, .bool false, .bool false, .int .i64 0, .int .i64 0, .int .i64 1]) (results_cell Try.results13 rfl hcN_13) rfl ⟨by rw [EA.out, EC.out]; rfl, hEN_13.out⟩
  have E0 : Hid (newB p g now = true) := by show _ = _; rw [← EB.out, h0, ht]; rfl
  have EN := hidS (new_parts E0.out)
  have hoa : ofAns p = ofP p := ofAns_pack EN.out.1
  have hiv : invAns g = invT g := if_pos EN.out.2.1
  have hEC := hidS (newC_yes E0.out)
  have HFm := hidS (fun W => haveForm_any (ofP p) (invT g) W)
  have HCo := hidS (fun hc => flow_new E0.out hc)
  have hcode := hidS (code_new E0.out)
  have HAb := hidS (newA_yes E0.out)
  have hT0 := hidS (tmB_iff.1 ht)
  rw [hoa] at hGA3
  rw [hiv] at HI
  clear EB HT HM h0 ht hoa hiv EN E0
  go_upto_region 4 with fail
  refine grow_struct 6 _ [.is (.agg #[.int .i64 (ofP p).proto, .int .i64 (ofP p).src, .int .i64 (ofP p).sport, .int .i64 (ofP p).dst, .int .i64 (ofP p).dport, .int .i64 (ofP p).kind]), .is (.agg #[.int .i64 g.proto, .int .i64 g.src, .int .i64 g.sport, .int .i64 g.dst, .int .i64 g.dport, .int .i64 g.kind]), .is (.agg #[.int .i64 (invT g).proto, .int .i64 (invT g).src, .int .i64 (invT g).sport, .int .i64 (invT g).dst, .int .i64 (invT g).dport, .int .i64 (invT g).kind]), .is (.agg #[.int .i64 (ofP p).proto, .int .i64 (ofP p).src, .int .i64 (ofP p).sport, .int .i64 (ofP p).dst, .int .i64 (ofP p).dport, .int .i64 (ofP p).kind, .int .i64 (invT g).proto, .int .i64 (invT g).src, .int .i64 (invT g).sport, .int .i64 (invT g).dst, .int .i64 (invT g).dport, .int .i64 (invT g).kind]), .is (.agg #[.int .i64 (ofP p).proto, .int .i64 (ofP p).src, .int .i64 (ofP p).sport, .int .i64 (ofP p).dst, .int .i64 (ofP p).dport, .int .i64 (ofP p).kind, .int .i64 (invT g).proto, .int .i64 (invT g).src, .int .i64 (invT g).sport, .int .i64 (invT g).dst, .int .i64 (invT g).dport, .int .i64 (invT g).kind, .int .i64 0, .bool false, .bool false, .int .i64 0, .int .i64 0]), .blk w3.heap.size #[.int .i64 0, .int .i64 0, .int .i64 0, .int .i64 0, .int .i64 0, .int .i64 0, .int .i64 0, .int .i64 0, .int .i64 0, .int .i64 0, .int .i64 0, .int .i64 0, .int .i64 0, .bool false, .bool false, .int .i64 0, .int .i64 0] 51] 5 4 8 26 51 51 #[.int .i64 0, .int .i64 0, .int .i64 0, .int .i64 0, .int .i64 0, .int .i64 0, .int .i64 0, .int .i64 0, .int .i64 0, .int .i64 0, .int .i64 0, .int .i64 0, .int .i64 0, .bool false, .bool false, .int .i64 0, .int .i64 0] #[.int .i64 (ofP p).proto, .int .i64 (ofP p).src, .int .i64 (ofP p).sport, .int .i64 (ofP p).dst, .int .i64 (ofP p).dport, .int .i64 (ofP p).kind, .int .i64 (invT g).proto, .int .i64 (invT g).src, .int .i64 (invT g).sport, .int .i64 (invT g).dst, .int .i64 (invT g).dport, .int .i64 (invT g).kind, .int .i64 0, .bool false, .bool false, .int .i64 0, .int .i64 0] rfl rfl rfl (by kernel_rfl) (by kernel_rfl) (by kernel_rfl) rfl rfl rfl rfl (by decide) (by decide) rfl rfl rfl (by first | kernel_rfl | simp [Value.oneCell']) (by kernel_rfl) ?stepsK_14 ?finK_14
  case stepsK_14 =>
    refine ⟨?_, ?_, ?_, ?_, ?_, ?_, trivial⟩
    · refine ⟨rfl, fun v W ρ hC kc kf ks ki kd => ?_⟩
      have t7 : ρ (.tmp 7) = .pointer (some ⟨gA, 0, none⟩) := ki 7 (by decide)
      have hg := blk_later hGA3.out hC
      have c0 := blk_cell hg 0
      have c1 := blk_cell hg 1
      have c2 := blk_cell hg 2
      have c3 := blk_cell hg 3
      have c4 := blk_cell hg 4
      have c5 := blk_cell hg 5
      simp at c0 c1 c2 c3 c4 c5
      simp [execOp, go_sem, kc, t7, c0, c1, c2, c3, c4, c5]
      exact ⟨hC, Below.refl _ _, rfl⟩
    · refine ⟨rfl, fun v W ρ hC kc kf ks ki kd => ?_⟩
      have t4 : ρ (.tmp 4) = .pointer (some ⟨w.heap.size + 1, 0, none⟩) := ki 4 (by decide)
      have hg := blk_later hGG3.out hC
      have c0 := blk_cell hg 0
      have c1 := blk_cell hg 1
      have c2 := blk_cell hg 2
      have c3 := blk_cell hg 3
      have c4 := blk_cell hg 4
      have c5 := blk_cell hg 5
      simp at c0 c1 c2 c3 c4 c5
      simp [execOp, go_sem, kc, t4, c0, c1, c2, c3, c4, c5]
      exact ⟨hC, Below.refl _ _, rfl⟩
    · refine ⟨rfl, fun v W ρ hC kc kf ks ki kd => ?_⟩
      have d1 : v 1 = .agg #[.int .i64 g.proto, .int .i64 g.src, .int .i64 g.sport, .int .i64 g.dst, .int .i64 g.dport, .int .i64 g.kind] := by first | exact kd _ (mem0 rfl) rfl | exact kd _ (mem1 rfl) rfl | exact kd _ (mem2 rfl) rfl | exact kd _ (mem3 rfl) rfl | exact kd _ (mem4 rfl) rfl | exact kd _ (mem5 rfl) rfl | exact kd _ (Array.mem_of_getElem? (i := 6) rfl) rfl | exact kd _ (Array.mem_of_getElem? (i := 7) rfl) rfl
      have t23 : ρ (.tmp 23) = .agg #[.int .i64 g.proto, .int .i64 g.src, .int .i64 g.sport, .int .i64 g.dst, .int .i64 g.dport, .int .i64 g.kind] := (ks 1 23 (by decide) rfl).trans d1
      simp [execOp, go_sem, kc, t23, kf]
      exact Calls.mono (HI.out W) (fun e x h => ⟨_, h.1, hC.trans (h.2.mono hC.size), h.2, rfl⟩)
    · refine ⟨rfl, fun v W ρ hC kc kf ks ki kd => ?_⟩
      have d0 : v 0 = .agg #[.int .i64 (ofP p).proto, .int .i64 (ofP p).src, .int .i64 (ofP p).sport, .int .i64 (ofP p).dst, .int .i64 (ofP p).dport, .int .i64 (ofP p).kind] := by first | exact kd _ (mem0 rfl) rfl | exact kd _ (mem1 rfl) rfl | exact kd _ (mem2 rfl) rfl | exact kd _ (mem3 rfl) rfl | exact kd _ (mem4 rfl) rfl | exact kd _ (mem5 rfl) rfl | exact kd _ (Array.mem_of_getElem? (i := 6) rfl) rfl | exact kd _ (Array.mem_of_getElem? (i := 7) rfl) rfl
      have t22 : ρ (.tmp 22) = .agg #[.int .i64 (ofP p).proto, .int .i64 (ofP p).src, .int .i64 (ofP p).sport, .int .i64 (ofP p).dst, .int .i64 (ofP p).dport, .int .i64 (ofP p).kind] := (ks 0 22 (by decide) rfl).trans d0
      have d2 : v 2 = .agg #[.int .i64 (invT g).proto, .int .i64 (invT g).src, .int .i64 (invT g).sport, .int .i64 (invT g).dst, .int .i64 (invT g).dport, .int .i64 (invT g).kind] := by first | exact kd _ (mem0 rfl) rfl | exact kd _ (mem1 rfl) rfl | exact kd _ (mem2 rfl) rfl | exact kd _ (mem3 rfl) rfl | exact kd _ (mem4 rfl) rfl | exact kd _ (mem5 rfl) rfl | exact kd _ (Array.mem_of_getElem? (i := 6) rfl) rfl | exact kd _ (Array.mem_of_getElem? (i := 7) rfl) rfl
      have t24 : ρ (.tmp 24) = .agg #[.int .i64 (invT g).proto, .int .i64 (invT g).src, .int .i64 (invT g).sport, .int .i64 (invT g).dst, .int .i64 (invT g).dport, .int .i64 (invT g).kind] := (ks 2 24 (by decide) rfl).trans d2
      simp [execOp, go_sem, kc, t22, t24]
      exact ⟨hC, Below.refl _ _, rfl⟩
    · refine ⟨rfl, fun v W ρ hC kc kf ks ki kd => ?_⟩
      have d3 : v 3 = .agg #[.int .i64 (ofP p).proto, .int .i64 (ofP p).src, .int .i64 (ofP p).sport, .int .i64 (ofP p).dst, .int .i64 (ofP p).dport, .int .i64 (ofP p).kind, .int .i64 (invT g).proto, .int .i64 (invT g).src, .int .i64 (invT g).sport, .int .i64 (invT g).dst, .int .i64 (invT g).dport, .int .i64 (invT g).kind] := by first | exact kd _ (mem0 rfl) rfl | exact kd _ (mem1 rfl) rfl | exact kd _ (mem2 rfl) rfl | exact kd _ (mem3 rfl) rfl | exact kd _ (mem4 rfl) rfl | exact kd _ (mem5 rfl) rfl | exact kd _ (Array.mem_of_getElem? (i := 6) rfl) rfl | exact kd _ (Array.mem_of_getElem? (i := 7) rfl) rfl
      have t25 : ρ (.tmp 25) = .agg #[.int .i64 (ofP p).proto, .int .i64 (ofP p).src, .int .i64 (ofP p).sport, .int .i64 (ofP p).dst, .int .i64 (ofP p).dport, .int .i64 (ofP p).kind, .int .i64 (invT g).proto, .int .i64 (invT g).src, .int .i64 (invT g).sport, .int .i64 (invT g).dst, .int .i64 (invT g).dport, .int .i64 (invT g).kind] := (ks 3 25 (by decide) rfl).trans d3
      simp [execOp, go_sem, kc, t25]
      exact ⟨hC, Below.refl _ _, rfl⟩
    · refine ⟨rfl, fun v W ρ hC kc kf ks ki kd => ?_⟩
      simp [execOp, go_sem]
      exact ⟨hC.alloc hC.size _, (Below.refl _ _).alloc (Nat.le_refl _) _, W.heap.size, rfl, hC.size, heap_newG _ _⟩
  intro vK_14 w4 gK hb hvB hnK hBk hall
  simp [upto, Act.put]
  rw [hvB]
  clear hall hvB
  have hGP4 := hidS (blk_later hGP3.out hb)
  have lKP := blk_lt hGP3.out
  have hGG4 := hidS (blk_later hGG3.out hb)
  have lKG := blk_lt hGG3.out
  have hGR4 := hidS (blk_later hGR3.out hb)
  have lKR := blk_lt hGR3.out
  have hGA4 := hidS (blk_later hGA3.out hb)
  have lKA := blk_lt hGA3.out
  have lwK := hL3.out.size
  have hL4 := hidS (hL3.out.trans (hb.mono hL3.out.size))
  have hGK4 := hidS hBk
  clear hb hBk hL3 hGP3 hGG3 hGR3 hGA3
  have HSt : Hid (∀ W, Calls Try.prog 29 #[.agg #[.int .i64 (ofP p).proto, .int .i64 (ofP p).src, .int .i64 (ofP p).sport, .int .i64 (ofP p).dst, .int .i64 (ofP p).dport, .int .i64 (ofP p).kind, .int .i64 (invT g).proto, .int .i64 (invT g).src, .int .i64 (invT g).sport, .int .i64 (invT g).dst, .int .i64 (invT g).dport, .int .i64 (invT g).kind, .int .i64 0, .bool false, .bool false, .int .i64 0, .int .i64 0], .agg #[.int .i64 p.src, .int .i64 p.dst, .int .i64 p.proto, .int .i64 p.a, .int .i64 p.b, .int .i64 p.kind, .int .i64 p.flags, .int .i64 p.seq, .int .i64 p.ack, .string p.body], .bool false] W fun e w' => e = .returned (.int .i64 (toZ p.proto 0 false p.flags)) ∧ Below W.heap.size W w') := hidS (fun W => stateAfter_any ⟨ofP p, invT g, 0, false, false, 0, 0⟩ p false W)
  have HCt := hidS (fun s W => counted_any ⟨ofP p, invT g, s, false, false, 0, 0⟩ now W hT0.out (by simp))
  have cP0 := blk_cell hGP4.out 0
  have cP1 := blk_cell hGP4.out 1
  have cP2 := blk_cell hGP4.out 2
  have cP3 := blk_cell hGP4.out 3
  have cP4 := blk_cell hGP4.out 4
  have cP5 := blk_cell hGP4.out 5
  have cP6 := blk_cell hGP4.out 6
  have cP7 := blk_cell hGP4.out 7
  have cP8 := blk_cell hGP4.out 8
  have cP9 := blk_cell hGP4.out 9
  simp at cP0 cP1 cP2 cP3 cP4 cP5 cP6 cP7 cP8 cP9
  go_wp2_with (first | refine wpList_load_blk 51 (.tmp 8) rfl rfl rfl hGK4.out Try.underlying51 rfl (by kernel_rfl) ?_)
  refine (HSt.out _).mono ?_
  rintro _ w5 ⟨rfl, hb5⟩
  clear cP0 cP1 cP2 cP3 cP4 cP5 cP6 cP7 cP8 cP9
  have hGP5 := hidS (blk_later hGP4.out hb5)
  have hGG5 := hidS (blk_later hGG4.out hb5)
  have hGR5 := hidS (blk_later hGR4.out hb5)
  have hGA5 := hidS (blk_later hGA4.out hb5)
  have hGK5 := hidS (blk_later hGK4.out hb5)
  have hL5 := hidS (hL4.out.trans (hb5.mono hL4.out.size))
  clear hb5 hL4 hGP4 hGG4 hGR4 hGA4 hGK4
  generalize toZ p.proto 0 false p.flags = s at *
  have kK := blk_cell hGK5.out
  have fK := blk_free hGK5.out
  go_upto_region 6 with fail
  clear kK fK
  have hGK6 : Hid ((w5.setCell ⟨gK, 12, none⟩ (.int .i64 s)).heap[gK]? = some (.cells #[.int .i64 (ofP p).proto, .int .i64 (ofP p).src, .int .i64 (ofP p).sport, .int .i64 (ofP p).dst, .int .i64 (ofP p).dport, .int .i64 (ofP p).kind, .int .i64 (invT g).proto, .int .i64 (invT g).src, .int .i64 (invT g).sport, .int .i64 (invT g).dst, .int .i64 (invT g).dport, .int .i64 (invT g).kind, .int .i64 s, .bool false, .bool false, .int .i64 0, .int .i64 0] 51)) := by
    have := (blk_set hGK5.out 12 (.int .i64 s))
    exact this
  have hGP6 := hidS (blk_other (B := gK) hGP5.out (by omega) 12 (.int .i64 s))
  have hGG6 := hidS (blk_other (B := gK) hGG5.out (by omega) 12 (.int .i64 s))
  have hGR6 := hidS (blk_other (B := gK) hGR5.out (by omega) 12 (.int .i64 s))
  have hGA6 := hidS (blk_other (B := gK) hGA5.out (by omega) 12 (.int .i64 s))
  have hL6 := hidS (below_at (k := 12) (b := gK) (v := .int .i64 s) hL5.out (by omega))
  clear hL5 hGK5 hGP5 hGG5 hGR5 hGA5
  generalize (w5.setCell ⟨gK, 12, none⟩ (.int .i64 s)) = w6 at hGP6 hGG6 hGR6 hGA6 hGK6 hL6 ⊢
  have cK0 := blk_cell hGK6.out 0
  have cK1 := blk_cell hGK6.out 1
  have cK2 := blk_cell hGK6.out 2
  have cK3 := blk_cell hGK6.out 3
  have cK4 := blk_cell hGK6.out 4
  have cK5 := blk_cell hGK6.out 5
  have cK6 := blk_cell hGK6.out 6
  have cK7 := blk_cell hGK6.out 7
  have cK8 := blk_cell hGK6.out 8
  have cK9 := blk_cell hGK6.out 9
  have cK10 := blk_cell hGK6.out 10
  have cK11 := blk_cell hGK6.out 11
  have cK12 := blk_cell hGK6.out 12
  have cK13 := blk_cell hGK6.out 13
  have cK14 := blk_cell hGK6.out 14
  have cK15 := blk_cell hGK6.out 15
  have cK16 := blk_cell hGK6.out 16
  simp at cK0 cK1 cK2 cK3 cK4 cK5 cK6 cK7 cK8 cK9 cK10 cK11 cK12 cK13 cK14 cK15 cK16
  cases hs : (s == -1)
  · go_wp2_with (first | refine wpList_load_part 49 (.tmp 35) rfl rfl (o := 0) [.int .i64 (ofP p).proto, .int .i64 (ofP p).src, .int .i64 (ofP p).sport, .int .i64 (ofP p).dst, .int .i64 (ofP p).dport, .int .i64 (ofP p).kind, .int .i64 (invT g).proto, .int .i64 (invT g).src, .int .i64 (invT g).sport, .int .i64 (invT g).dst, .int .i64 (invT g).dport, .int .i64 (invT g).kind] rfl hGK6.out rfl Try.underlying49 rfl (by kernel_rfl) ?_)
    refine (HFm.out _).mono ?_
    rintro _ w7 ⟨rfl, hb7⟩
    clear cK0 cK1 cK2 cK3 cK4 cK5 cK6 cK7 cK8 cK9 cK10 cK11 cK12 cK13 cK14 cK15 cK16
    have hGP7 := hidS (blk_later hGP6.out hb7)
    have hGG7 := hidS (blk_later hGG6.out hb7)
    have hGR7 := hidS (blk_later hGR6.out hb7)
    have hGA7 := hidS (blk_later hGA6.out hb7)
    have hGK7 := hidS (blk_later hGK6.out hb7)
    have hL7 := hidS (hL6.out.trans (hb7.mono hL6.out.size))
    clear hb7 hL6 hGP6 hGG6 hGR6 hGA6 hGK6
    cases hf : formB (ofP p) (invT g)
    · have E : Hid (codeN p = 10) := hidS (hcode.out.trans (by rw [hs, hf]; rfl))
      have EF : Hid (newA p g now = zeroFl) := hidS (HAb.out.trans (flowN_no g now E.out))
      go_upto_region 7 with fail
      refine plain_into 1 _ [.is (.agg #[.int .i64 0, .int .i64 0, .int .i64 0, .int .i64 0, .int .i64 0, .int .i64 0, .int .i64 0, .int .i64 0, .int .i64 0, .int .i64 0, .int .i64 0, .int .i64 0, .int .i64 0, .bool false, .bool false, .int .i64 0, .int .i64 0, .int .i64 10])] 0 6 40 36 36 (w.heap.size + 2) #[.int .i64 0, .int .i64 0, .int .i64 0, .int .i64 0, .int .i64 0, .int .i64 0, .int .i64 0, .int .i64 0, .int .i64 0, .int .i64 0, .int .i64 0, .int .i64 0, .int .i64 0, .bool false, .bool false, .int .i64 0, .int .i64 0, .int .i64 0] #[.int .i64 0, .int .i64 0, .int .i64 0, .int .i64 0, .int .i64 0, .int .i64 0, .int .i64 0, .int .i64 0, .int .i64 0, .int .i64 0, .int .i64 0, .int .i64 0, .int .i64 0, .bool false, .bool false, .int .i64 0, .int .i64 0, .int .i64 10] rfl rfl rfl (by kernel_rfl) (by kernel_rfl) (by kernel_rfl) rfl rfl (by decide) (by kernel_rfl) (by kernel_rfl) (by decide) hGR7.out (by kernel_rfl) (by kernel_rfl) (by first | kernel_rfl | simp [Value.oneCell']) (by kernel_rfl) ?stepsS_15 ?finS_15
      case stepsS_15 =>
        refine ⟨?_, trivial⟩
        · refine ⟨rfl, fun v W ρ hC kc kf ks ki kd => ?_⟩
          simp [execOp, go_sem, kc, ]
          exact ⟨hC, Below.refl _ _, rfl⟩
      intro vS_15 WS_15 hBS_15 hgS_15 hall
      simp [upto, Act.put]
      clear hall
      have hES_15 := hidS (hL7.out.trans (hBS_15 w.heap.size (by omega)))
      have hcS_15 := loadVar_blk (P := Try.prog) hgS_15 Try.underlying36 rfl (by kernel_rfl)
      clear hBS_15 hgS_15 hL7 hGP7 hGG7 hGR7 hGA7 hGK7
      go_wp2_with fail
      exact bodyPost_ret (v := .agg #[.int .i64 0, .int .i64 0, .int .i64 0, .int .i64 0, .int .i64 0, .int .i64 0, .int .i64 0, .int .i64 0, .int .i64 0, .int .i64 0, .int .i64 0, .int .i64 0, .int .i64 0, .bool false, .bool false, .int .i64 0, .int .i64 0, .int .i64 10]) (results_cell Try.results13 rfl hcS_15) rfl ⟨by rw [EF.out, hEC.out, E.out]; rfl, hES_15.out⟩
    have E : Hid (codeN p = 0) := hidS (hcode.out.trans (by rw [hs, hf]; rfl))
    have EF := hidS (HCo.out E.out)
    go_upto_region 8 with fail
    have HFl := hidS (fun W => flowOf_any (counted ⟨ofP p, invT g, s, false, false, 0, 0⟩ now) W)
    refine plain_into 5 _ [.is (.agg #[.int .i64 (ofP p).proto, .int .i64 (ofP p).src, .int .i64 (ofP p).sport, .int .i64 (ofP p).dst, .int .i64 (ofP p).dport, .int .i64 (ofP p).kind, .int .i64 (invT g).proto, .int .i64 (invT g).src, .int .i64 (invT g).sport, .int .i64 (invT g).dst, .int .i64 (invT g).dport, .int .i64 (invT g).kind, .int .i64 s, .bool false, .bool false, .int .i64 0, .int .i64 0]), .is (.int .i64 now), .is (.agg #[.int .i64 (counted ⟨ofP p, invT g, s, false, false, 0, 0⟩ now).orig.proto, .int .i64 (counted ⟨ofP p, invT g, s, false, false, 0, 0⟩ now).orig.src, .int .i64 (counted ⟨ofP p, invT g, s, false, false, 0, 0⟩ now).orig.sport, .int .i64 (counted ⟨ofP p, invT g, s, false, false, 0, 0⟩ now).orig.dst, .int .i64 (counted ⟨ofP p, invT g, s, false, false, 0, 0⟩ now).orig.dport, .int .i64 (counted ⟨ofP p, invT g, s, false, false, 0, 0⟩ now).orig.kind, .int .i64 (counted ⟨ofP p, invT g, s, false, false, 0, 0⟩ now).back.proto, .int .i64 (counted ⟨ofP p, invT g, s, false, false, 0, 0⟩ now).back.src, .int .i64 (counted ⟨ofP p, invT g, s, false, false, 0, 0⟩ now).back.sport, .int .i64 (counted ⟨ofP p, invT g, s, false, false, 0, 0⟩ now).back.dst, .int .i64 (counted ⟨ofP p, invT g, s, false, false, 0, 0⟩ now).back.dport, .int .i64 (counted ⟨ofP p, invT g, s, false, false, 0, 0⟩ now).back.kind, .int .i64 (counted ⟨ofP p, invT g, s, false, false, 0, 0⟩ now).state, .bool (counted ⟨ofP p, invT g, s, false, false, 0, 0⟩ now).seen, .bool (counted ⟨ofP p, invT g, s, false, false, 0, 0⟩ now).sure, .int .i64 (counted ⟨ofP p, invT g, s, false, false, 0, 0⟩ now).till, .int .i64 (counted ⟨ofP p, invT g, s, false, false, 0, 0⟩ now).count]), .is (.agg #[.int .i64 (counted ⟨ofP p, invT g, s, false, false, 0, 0⟩ now).orig.proto, .int .i64 (counted ⟨ofP p, invT g, s, false, false, 0, 0⟩ now).orig.src, .int .i64 (counted ⟨ofP p, invT g, s, false, false, 0, 0⟩ now).orig.sport, .int .i64 (counted ⟨ofP p, invT g, s, false, false, 0, 0⟩ now).orig.dst, .int .i64 (counted ⟨ofP p, invT g, s, false, false, 0, 0⟩ now).orig.dport, .int .i64 (counted ⟨ofP p, invT g, s, false, false, 0, 0⟩ now).orig.kind, .int .i64 (counted ⟨ofP p, invT g, s, false, false, 0, 0⟩ now).back.proto, .int .i64 (counted ⟨ofP p, invT g, s, false, false, 0, 0⟩ now).back.src, .int .i64 (counted ⟨ofP p, invT g, s, false, false, 0, 0⟩ now).back.sport, .int .i64 (counted ⟨ofP p, invT g, s, false, false, 0, 0⟩ now).back.dst, .int .i64 (counted ⟨ofP p, invT g, s, false, false, 0, 0⟩ now).back.dport, .int .i64 (counted ⟨ofP p, invT g, s, false, false, 0, 0⟩ now).back.kind, .int .i64 (counted ⟨ofP p, invT g, s, false, false, 0, 0⟩ now).state, .bool (counted ⟨ofP p, invT g, s, false, false, 0, 0⟩ now).seen, .bool (counted ⟨ofP p, invT g, s, false, false, 0, 0⟩ now).sure, .int .i64 (counted ⟨ofP p, invT g, s, false, false, 0, 0⟩ now).till, .int .i64 (counted ⟨ofP p, invT g, s, false, false, 0, 0⟩ now).count]), .is (.agg #[.int .i64 (counted ⟨ofP p, invT g, s, false, false, 0, 0⟩ now).orig.proto, .int .i64 (counted ⟨ofP p, invT g, s, false, false, 0, 0⟩ now).orig.src, .int .i64 (counted ⟨ofP p, invT g, s, false, false, 0, 0⟩ now).orig.sport, .int .i64 (counted ⟨ofP p, invT g, s, false, false, 0, 0⟩ now).orig.dst, .int .i64 (counted ⟨ofP p, invT g, s, false, false, 0, 0⟩ now).orig.dport, .int .i64 (counted ⟨ofP p, invT g, s, false, false, 0, 0⟩ now).orig.kind, .int .i64 (counted ⟨ofP p, invT g, s, false, false, 0, 0⟩ now).back.proto, .int .i64 (counted ⟨ofP p, invT g, s, false, false, 0, 0⟩ now).back.src, .int .i64 (counted ⟨ofP p, invT g, s, false, false, 0, 0⟩ now).back.sport, .int .i64 (counted ⟨ofP p, invT g, s, false, false, 0, 0⟩ now).back.dst, .int .i64 (counted ⟨ofP p, invT g, s, false, false, 0, 0⟩ now).back.dport, .int .i64 (counted ⟨ofP p, invT g, s, false, false, 0, 0⟩ now).back.kind, .int .i64 (counted ⟨ofP p, invT g, s, false, false, 0, 0⟩ now).state, .bool (counted ⟨ofP p, invT g, s, false, false, 0, 0⟩ now).seen, .bool (counted ⟨ofP p, invT g, s, false, false, 0, 0⟩ now).sure, .int .i64 (counted ⟨ofP p, invT g, s, false, false, 0, 0⟩ now).till, .int .i64 (counted ⟨ofP p, invT g, s, false, false, 0, 0⟩ now).count, .int .i64 0])] 4 6 45 36 36 (w.heap.size + 2) #[.int .i64 0, .int .i64 0, .int .i64 0, .int .i64 0, .int .i64 0, .int .i64 0, .int .i64 0, .int .i64 0, .int .i64 0, .int .i64 0, .int .i64 0, .int .i64 0, .int .i64 0, .bool false, .bool false, .int .i64 0, .int .i64 0, .int .i64 0] #[.int .i64 (counted ⟨ofP p, invT g, s, false, false, 0, 0⟩ now).orig.proto, .int .i64 (counted ⟨ofP p, invT g, s, false, false, 0, 0⟩ now).orig.src, .int .i64 (counted ⟨ofP p, invT g, s, false, false, 0, 0⟩ now).orig.sport, .int .i64 (counted ⟨ofP p, invT g, s, false, false, 0, 0⟩ now).orig.dst, .int .i64 (counted ⟨ofP p, invT g, s, false, false, 0, 0⟩ now).orig.dport, .int .i64 (counted ⟨ofP p, invT g, s, false, false, 0, 0⟩ now).orig.kind, .int .i64 (counted ⟨ofP p, invT g, s, false, false, 0, 0⟩ now).back.proto, .int .i64 (counted ⟨ofP p, invT g, s, false, false, 0, 0⟩ now).back.src, .int .i64 (counted ⟨ofP p, invT g, s, false, false, 0, 0⟩ now).back.sport, .int .i64 (counted ⟨ofP p, invT g, s, false, false, 0, 0⟩ now).back.dst, .int .i64 (counted ⟨ofP p, invT g, s, false, false, 0, 0⟩ now).back.dport, .int .i64 (counted ⟨ofP p, invT g, s, false, false, 0, 0⟩ now).back.kind, .int .i64 (counted ⟨ofP p, invT g, s, false, false, 0, 0⟩ now).state, .bool (counted ⟨ofP p, invT g, s, false, false, 0, 0⟩ now).seen, .bool (counted ⟨ofP p, invT g, s, false, false, 0, 0⟩ now).sure, .int .i64 (counted ⟨ofP p, invT g, s, false, false, 0, 0⟩ now).till, .int .i64 (counted ⟨ofP p, invT g, s, false, false, 0, 0⟩ now).count, .int .i64 0] rfl rfl rfl (by kernel_rfl) (by kernel_rfl) (by kernel_rfl) rfl rfl (by decide) (by kernel_rfl) (by kernel_rfl) (by decide) hGR7.out (by kernel_rfl) (by kernel_rfl) (by first | kernel_rfl | simp [Value.oneCell']) (by kernel_rfl) ?stepsY_16 ?finY_16
    case stepsY_16 =>
      refine ⟨?_, ?_, ?_, ?_, ?_, trivial⟩
      · refine ⟨rfl, fun v W ρ hC kc kf ks ki kd => ?_⟩
        have t8 : ρ (.tmp 8) = .pointer (some ⟨gK, 0, none⟩) := ki 8 (by decide)
        simp only [execOp, t8, Sem.run_bind, loadAt_part (o := 0) [.int .i64 (ofP p).proto, .int .i64 (ofP p).src, .int .i64 (ofP p).sport, .int .i64 (ofP p).dst, .int .i64 (ofP p).dport, .int .i64 (ofP p).kind, .int .i64 (invT g).proto, .int .i64 (invT g).src, .int .i64 (invT g).sport, .int .i64 (invT g).dst, .int .i64 (invT g).dport, .int .i64 (invT g).kind, .int .i64 s, .bool false, .bool false, .int .i64 0, .int .i64 0] (blk_later hGK7.out hC) rfl Try.underlying51 rfl (by kernel_rfl), Result.andThen_ok, Sem.run_pure]
        exact ⟨hC, Below.refl _ _, rfl⟩
      · refine ⟨rfl, fun v W ρ hC kc kf ks ki kd => ?_⟩
        have t2 : ρ (.tmp 2) = .int .i64 now := ki 2 (by decide)
        simp [execOp, go_sem, kc, t2]
        exact ⟨hC, Below.refl _ _, rfl⟩
      · refine ⟨rfl, fun v W ρ hC kc kf ks ki kd => ?_⟩
        have d0 : v 0 = .agg #[.int .i64 (ofP p).proto, .int .i64 (ofP p).src, .int .i64 (ofP p).sport, .int .i64 (ofP p).dst, .int .i64 (ofP p).dport, .int .i64 (ofP p).kind, .int .i64 (invT g).proto, .int .i64 (invT g).src, .int .i64 (invT g).sport, .int .i64 (invT g).dst, .int .i64 (invT g).dport, .int .i64 (invT g).kind, .int .i64 s, .bool false, .bool false, .int .i64 0, .int .i64 0] := by first | exact kd _ (mem0 rfl) rfl | exact kd _ (mem1 rfl) rfl | exact kd _ (mem2 rfl) rfl | exact kd _ (mem3 rfl) rfl | exact kd _ (mem4 rfl) rfl | exact kd _ (mem5 rfl) rfl | exact kd _ (Array.mem_of_getElem? (i := 6) rfl) rfl | exact kd _ (Array.mem_of_getElem? (i := 7) rfl) rfl
        have t41 : ρ (.tmp 41) = .agg #[.int .i64 (ofP p).proto, .int .i64 (ofP p).src, .int .i64 (ofP p).sport, .int .i64 (ofP p).dst, .int .i64 (ofP p).dport, .int .i64 (ofP p).kind, .int .i64 (invT g).proto, .int .i64 (invT g).src, .int .i64 (invT g).sport, .int .i64 (invT g).dst, .int .i64 (invT g).dport, .int .i64 (invT g).kind, .int .i64 s, .bool false, .bool false, .int .i64 0, .int .i64 0] := (ks 0 41 (by decide) rfl).trans d0
        have d1 : v 1 = .int .i64 now := by first | exact kd _ (mem0 rfl) rfl | exact kd _ (mem1 rfl) rfl | exact kd _ (mem2 rfl) rfl | exact kd _ (mem3 rfl) rfl | exact kd _ (mem4 rfl) rfl | exact kd _ (mem5 rfl) rfl | exact kd _ (Array.mem_of_getElem? (i := 6) rfl) rfl | exact kd _ (Array.mem_of_getElem? (i := 7) rfl) rfl
        have t42 : ρ (.tmp 42) = .int .i64 now := (ks 1 42 (by decide) rfl).trans d1
        simp [execOp, go_sem, kc, t41, t42, kf]
        exact Calls.mono (HCt.out s W) (fun e x h => ⟨_, h.1, hC.trans (h.2.mono hC.size), h.2, rfl⟩)
      · refine ⟨rfl, fun v W ρ hC kc kf ks ki kd => ?_⟩
        have d2 : v 2 = .agg #[.int .i64 (counted ⟨ofP p, invT g, s, false, false, 0, 0⟩ now).orig.proto, .int .i64 (counted ⟨ofP p, invT g, s, false, false, 0, 0⟩ now).orig.src, .int .i64 (counted ⟨ofP p, invT g, s, false, false, 0, 0⟩ now).orig.sport, .int .i64 (counted ⟨ofP p, invT g, s, false, false, 0, 0⟩ now).orig.dst, .int .i64 (counted ⟨ofP p, invT g, s, false, false, 0, 0⟩ now).orig.dport, .int .i64 (counted ⟨ofP p, invT g, s, false, false, 0, 0⟩ now).orig.kind, .int .i64 (counted ⟨ofP p, invT g, s, false, false, 0, 0⟩ now).back.proto, .int .i64 (counted ⟨ofP p, invT g, s, false, false, 0, 0⟩ now).back.src, .int .i64 (counted ⟨ofP p, invT g, s, false, false, 0, 0⟩ now).back.sport, .int .i64 (counted ⟨ofP p, invT g, s, false, false, 0, 0⟩ now).back.dst, .int .i64 (counted ⟨ofP p, invT g, s, false, false, 0, 0⟩ now).back.dport, .int .i64 (counted ⟨ofP p, invT g, s, false, false, 0, 0⟩ now).back.kind, .int .i64 (counted ⟨ofP p, invT g, s, false, false, 0, 0⟩ now).state, .bool (counted ⟨ofP p, invT g, s, false, false, 0, 0⟩ now).seen, .bool (counted ⟨ofP p, invT g, s, false, false, 0, 0⟩ now).sure, .int .i64 (counted ⟨ofP p, invT g, s, false, false, 0, 0⟩ now).till, .int .i64 (counted ⟨ofP p, invT g, s, false, false, 0, 0⟩ now).count] := by first | exact kd _ (mem0 rfl) rfl | exact kd _ (mem1 rfl) rfl | exact kd _ (mem2 rfl) rfl | exact kd _ (mem3 rfl) rfl | exact kd _ (mem4 rfl) rfl | exact kd _ (mem5 rfl) rfl | exact kd _ (Array.mem_of_getElem? (i := 6) rfl) rfl | exact kd _ (Array.mem_of_getElem? (i := 7) rfl) rfl
        have t43 : ρ (.tmp 43) = .agg #[.int .i64 (counted ⟨ofP p, invT g, s, false, false, 0, 0⟩ now).orig.proto, .int .i64 (counted ⟨ofP p, invT g, s, false, false, 0, 0⟩ now).orig.src, .int .i64 (counted ⟨ofP p, invT g, s, false, false, 0, 0⟩ now).orig.sport, .int .i64 (counted ⟨ofP p, invT g, s, false, false, 0, 0⟩ now).orig.dst, .int .i64 (counted ⟨ofP p, invT g, s, false, false, 0, 0⟩ now).orig.dport, .int .i64 (counted ⟨ofP p, invT g, s, false, false, 0, 0⟩ now).orig.kind, .int .i64 (counted ⟨ofP p, invT g, s, false, false, 0, 0⟩ now).back.proto, .int .i64 (counted ⟨ofP p, invT g, s, false, false, 0, 0⟩ now).back.src, .int .i64 (counted ⟨ofP p, invT g, s, false, false, 0, 0⟩ now).back.sport, .int .i64 (counted ⟨ofP p, invT g, s, false, false, 0, 0⟩ now).back.dst, .int .i64 (counted ⟨ofP p, invT g, s, false, false, 0, 0⟩ now).back.dport, .int .i64 (counted ⟨ofP p, invT g, s, false, false, 0, 0⟩ now).back.kind, .int .i64 (counted ⟨ofP p, invT g, s, false, false, 0, 0⟩ now).state, .bool (counted ⟨ofP p, invT g, s, false, false, 0, 0⟩ now).seen, .bool (counted ⟨ofP p, invT g, s, false, false, 0, 0⟩ now).sure, .int .i64 (counted ⟨ofP p, invT g, s, false, false, 0, 0⟩ now).till, .int .i64 (counted ⟨ofP p, invT g, s, false, false, 0, 0⟩ now).count] := (ks 2 43 (by decide) rfl).trans d2
        simp [execOp, go_sem, kc, t43, kf]
        exact Calls.mono (HFl.out W) (fun e x h => ⟨_, h.1, hC.trans (h.2.mono hC.size), h.2, rfl⟩)
      · refine ⟨rfl, fun v W ρ hC kc kf ks ki kd => ?_⟩
        have d3 : v 3 = .agg #[.int .i64 (counted ⟨ofP p, invT g, s, false, false, 0, 0⟩ now).orig.proto, .int .i64 (counted ⟨ofP p, invT g, s, false, false, 0, 0⟩ now).orig.src, .int .i64 (counted ⟨ofP p, invT g, s, false, false, 0, 0⟩ now).orig.sport, .int .i64 (counted ⟨ofP p, invT g, s, false, false, 0, 0⟩ now).orig.dst, .int .i64 (counted ⟨ofP p, invT g, s, false, false, 0, 0⟩ now).orig.dport, .int .i64 (counted ⟨ofP p, invT g, s, false, false, 0, 0⟩ now).orig.kind, .int .i64 (counted ⟨ofP p, invT g, s, false, false, 0, 0⟩ now).back.proto, .int .i64 (counted ⟨ofP p, invT g, s, false, false, 0, 0⟩ now).back.src, .int .i64 (counted ⟨ofP p, invT g, s, false, false, 0, 0⟩ now).back.sport, .int .i64 (counted ⟨ofP p, invT g, s, false, false, 0, 0⟩ now).back.dst, .int .i64 (counted ⟨ofP p, invT g, s, false, false, 0, 0⟩ now).back.dport, .int .i64 (counted ⟨ofP p, invT g, s, false, false, 0, 0⟩ now).back.kind, .int .i64 (counted ⟨ofP p, invT g, s, false, false, 0, 0⟩ now).state, .bool (counted ⟨ofP p, invT g, s, false, false, 0, 0⟩ now).seen, .bool (counted ⟨ofP p, invT g, s, false, false, 0, 0⟩ now).sure, .int .i64 (counted ⟨ofP p, invT g, s, false, false, 0, 0⟩ now).till, .int .i64 (counted ⟨ofP p, invT g, s, false, false, 0, 0⟩ now).count] := by first | exact kd _ (mem0 rfl) rfl | exact kd _ (mem1 rfl) rfl | exact kd _ (mem2 rfl) rfl | exact kd _ (mem3 rfl) rfl | exact kd _ (mem4 rfl) rfl | exact kd _ (mem5 rfl) rfl | exact kd _ (Array.mem_of_getElem? (i := 6) rfl) rfl | exact kd _ (Array.mem_of_getElem? (i := 7) rfl) rfl
        have t44 : ρ (.tmp 44) = .agg #[.int .i64 (counted ⟨ofP p, invT g, s, false, false, 0, 0⟩ now).orig.proto, .int .i64 (counted ⟨ofP p, invT g, s, false, false, 0, 0⟩ now).orig.src, .int .i64 (counted ⟨ofP p, invT g, s, false, false, 0, 0⟩ now).orig.sport, .int .i64 (counted ⟨ofP p, invT g, s, false, false, 0, 0⟩ now).orig.dst, .int .i64 (counted ⟨ofP p, invT g, s, false, false, 0, 0⟩ now).orig.dport, .int .i64 (counted ⟨ofP p, invT g, s, false, false, 0, 0⟩ now).orig.kind, .int .i64 (counted ⟨ofP p, invT g, s, false, false, 0, 0⟩ now).back.proto, .int .i64 (counted ⟨ofP p, invT g, s, false, false, 0, 0⟩ now).back.src, .int .i64 (counted ⟨ofP p, invT g, s, false, false, 0, 0⟩ now).back.sport, .int .i64 (counted ⟨ofP p, invT g, s, false, false, 0, 0⟩ now).back.dst, .int .i64 (counted ⟨ofP p, invT g, s, false, false, 0, 0⟩ now).back.dport, .int .i64 (counted ⟨ofP p, invT g, s, false, false, 0, 0⟩ now).back.kind, .int .i64 (counted ⟨ofP p, invT g, s, false, false, 0, 0⟩ now).state, .bool (counted ⟨ofP p, invT g, s, false, false, 0, 0⟩ now).seen, .bool (counted ⟨ofP p, invT g, s, false, false, 0, 0⟩ now).sure, .int .i64 (counted ⟨ofP p, invT g, s, false, false, 0, 0⟩ now).till, .int .i64 (counted ⟨ofP p, invT g, s, false, false, 0, 0⟩ now).count] := (ks 3 44 (by decide) rfl).trans d3
        simp [execOp, go_sem, kc, t44]
        exact ⟨hC, Below.refl _ _, rfl⟩
    intro vY_16 WY_16 hBY_16 hgY_16 hall
    simp [upto, Act.put]
    clear hall
    have hEY_16 := hidS (hL7.out.trans (hBY_16 w.heap.size (by omega)))
    have hcY_16 := loadVar_blk (P := Try.prog) hgY_16 Try.underlying36 rfl (by kernel_rfl)
    clear hBY_16 hgY_16 hL7 hGP7 hGG7 hGR7 hGA7 hGK7
    go_wp2_with fail
    exact bodyPost_ret (v := .agg #[.int .i64 (counted ⟨ofP p, invT g, s, false, false, 0, 0⟩ now).orig.proto, .int .i64 (counted ⟨ofP p, invT g, s, false, false, 0, 0⟩ now).orig.src, .int .i64 (counted ⟨ofP p, invT g, s, false, false, 0, 0⟩ now).orig.sport, .int .i64 (counted ⟨ofP p, invT g, s, false, false, 0, 0⟩ now).orig.dst, .int .i64 (counted ⟨ofP p, invT g, s, false, false, 0, 0⟩ now).orig.dport, .int .i64 (counted ⟨ofP p, invT g, s, false, false, 0, 0⟩ now).orig.kind, .int .i64 (counted ⟨ofP p, invT g, s, false, false, 0, 0⟩ now).back.proto, .int .i64 (counted ⟨ofP p, invT g, s, false, false, 0, 0⟩ now).back.src, .int .i64 (counted ⟨ofP p, invT g, s, false, false, 0, 0⟩ now).back.sport, .int .i64 (counted ⟨ofP p, invT g, s, false, false, 0, 0⟩ now).back.dst, .int .i64 (counted ⟨ofP p, invT g, s, false, false, 0, 0⟩ now).back.dport, .int .i64 (counted ⟨ofP p, invT g, s, false, false, 0, 0⟩ now).back.kind, .int .i64 (counted ⟨ofP p, invT g, s, false, false, 0, 0⟩ now).state, .bool (counted ⟨ofP p, invT g, s, false, false, 0, 0⟩ now).seen, .bool (counted ⟨ofP p, invT g, s, false, false, 0, 0⟩ now).sure, .int .i64 (counted ⟨ofP p, invT g, s, false, false, 0, 0⟩ now).till, .int .i64 (counted ⟨ofP p, invT g, s, false, false, 0, 0⟩ now).count, .int .i64 0]) (results_cell Try.results13 rfl hcY_16) rfl ⟨by rw [EF.out, hEC.out, E.out], hEY_16.out⟩
  have E : Hid (codeN p = 10) := hidS (hcode.out.trans (by rw [hs]; rfl))
  have EF : Hid (newA p g now = zeroFl) := hidS (HAb.out.trans (flowN_no g now E.out))
  go_upto_region 7 with fail
  clear cK0 cK1 cK2 cK3 cK4 cK5 cK6 cK7 cK8 cK9 cK10 cK11 cK12 cK13 cK14 cK15 cK16
  refine plain_into 1 _ [.is (.agg #[.int .i64 0, .int .i64 0, .int .i64 0, .int .i64 0, .int .i64 0, .int .i64 0, .int .i64 0, .int .i64 0, .int .i64 0, .int .i64 0, .int .i64 0, .int .i64 0, .int .i64 0, .bool false, .bool false, .int .i64 0, .int .i64 0, .int .i64 10])] 0 6 40 36 36 (w.heap.size + 2) #[.int .i64 0, .int .i64 0, .int .i64 0, .int .i64 0, .int .i64 0, .int .i64 0, .int .i64 0, .int .i64 0, .int .i64 0, .int .i64 0, .int .i64 0, .int .i64 0, .int .i64 0, .bool false, .bool false, .int .i64 0, .int .i64 0, .int .i64 0] #[.int .i64 0, .int .i64 0, .int .i64 0, .int .i64 0, .int .i64 0, .int .i64 0, .int .i64 0, .int .i64 0, .int .i64 0, .int .i64 0, .int .i64 0, .int .i64 0, .int .i64 0, .bool false, .bool false, .int .i64 0, .int .i64 0, .int .i64 10] rfl rfl rfl (by kernel_rfl) (by kernel_rfl) (by kernel_rfl) rfl rfl (by decide) (by kernel_rfl) (by kernel_rfl) (by decide) hGR6.out (by kernel_rfl) (by kernel_rfl) (by first | kernel_rfl | simp [Value.oneCell']) (by kernel_rfl) ?stepsS_17 ?finS_17
  case stepsS_17 =>
    refine ⟨?_, trivial⟩
    · refine ⟨rfl, fun v W ρ hC kc kf ks ki kd => ?_⟩
      simp [execOp, go_sem, kc, ]
      exact ⟨hC, Below.refl _ _, rfl⟩
  intro vS_17 WS_17 hBS_17 hgS_17 hall
  simp [upto, Act.put]
  clear hall
  have hES_17 := hidS (hL6.out.trans (hBS_17 w.heap.size (by omega)))
  have hcS_17 := loadVar_blk (P := Try.prog) hgS_17 Try.underlying36 rfl (by kernel_rfl)
  clear hBS_17 hgS_17 hL6 hGP6 hGG6 hGR6 hGA6 hGK6
  go_wp2_with fail
  exact bodyPost_ret (v := .agg #[.int .i64 0, .int .i64 0, .int .i64 0, .int .i64 0, .int .i64 0, .int .i64 0, .int .i64 0, .int .i64 0, .int .i64 0, .int .i64 0, .int .i64 0, .int .i64 0, .int .i64 0, .bool false, .bool false, .int .i64 0, .int .i64 0, .int .i64 10]) (results_cell Try.results13 rfl hcS_17) rfl ⟨by rw [EF.out, hEC.out, E.out]; rfl, hES_17.out⟩
end Go.Proofs.Ytbhemimhmkgfiaa
