/- Proved here: spec.l09Next of a packet of TCP answers as the plain function; all old memory stays (no conditions but those that stand there). -/
import Derived.Test.YtbhemimhmkgfiaaFlowS2
namespace Go.Proofs.Ytbhemimhmkgfiaa
open Go.ChangeShapes Go.WideShapes Go.ChangeAt Go.RowKit
set_option linter.unusedVariables false
set_option linter.unusedSimpArgs false
set_option maxRecDepth 100000

set_option maxHeartbeats 8000000 in
theorem l09Next_tcp (fo fb : Tp) (fs ft fc : Int) (fn fu : Bool) (p : Pk) (b : Bool) (now : Int) (w : World) (h0 : 0 ≤ now ∧ now ≤ 1000000) (hc : 1 ≤ fc ∧ fc ≤ 1000000) (h6 : p.proto = 6) :
    Calls Try.prog 36 #[.agg #[.int .i64 fo.proto, .int .i64 fo.src, .int .i64 fo.sport, .int .i64 fo.dst, .int .i64 fo.dport, .int .i64 fo.kind, .int .i64 fb.proto, .int .i64 fb.src, .int .i64 fb.sport, .int .i64 fb.dst, .int .i64 fb.dport, .int .i64 fb.kind, .int .i64 fs, .bool fn, .bool fu, .int .i64 ft, .int .i64 fc], .agg #[.int .i64 p.src, .int .i64 p.dst, .int .i64 p.proto, .int .i64 p.a, .int .i64 p.b, .int .i64 p.kind, .int .i64 p.flags, .int .i64 p.seq, .int .i64 p.ack, .string p.body], .bool b, .int .i64 now] w fun e w' => e = .returned (.agg #[.int .i64 (flowX ⟨fo, fb, fs, fn, fu, ft, fc⟩ p b now).orig.proto, .int .i64 (flowX ⟨fo, fb, fs, fn, fu, ft, fc⟩ p b now).orig.src, .int .i64 (flowX ⟨fo, fb, fs, fn, fu, ft, fc⟩ p b now).orig.sport, .int .i64 (flowX ⟨fo, fb, fs, fn, fu, ft, fc⟩ p b now).orig.dst, .int .i64 (flowX ⟨fo, fb, fs, fn, fu, ft, fc⟩ p b now).orig.dport, .int .i64 (flowX ⟨fo, fb, fs, fn, fu, ft, fc⟩ p b now).orig.kind, .int .i64 (flowX ⟨fo, fb, fs, fn, fu, ft, fc⟩ p b now).back.proto, .int .i64 (flowX ⟨fo, fb, fs, fn, fu, ft, fc⟩ p b now).back.src, .int .i64 (flowX ⟨fo, fb, fs, fn, fu, ft, fc⟩ p b now).back.sport, .int .i64 (flowX ⟨fo, fb, fs, fn, fu, ft, fc⟩ p b now).back.dst, .int .i64 (flowX ⟨fo, fb, fs, fn, fu, ft, fc⟩ p b now).back.dport, .int .i64 (flowX ⟨fo, fb, fs, fn, fu, ft, fc⟩ p b now).back.kind, .int .i64 (flowX ⟨fo, fb, fs, fn, fu, ft, fc⟩ p b now).state, .bool (flowX ⟨fo, fb, fs, fn, fu, ft, fc⟩ p b now).seen, .bool (flowX ⟨fo, fb, fs, fn, fu, ft, fc⟩ p b now).sure, .int .i64 (flowX ⟨fo, fb, fs, fn, fu, ft, fc⟩ p b now).till, .int .i64 (flowX ⟨fo, fb, fs, fn, fu, ft, fc⟩ p b now).count, .int .i64 (codeX ⟨fo, fb, fs, fn, fu, ft, fc⟩ p b)]) ∧ Below w.heap.size w w' := by
  have HS := hidS (fun W => sameB (specSign_any p.flags W))
  have HI10 := hidS (fun W => l09Ill_any 10 W)
  have HI9 := hidS (fun W => l09Ill_any 9 W)
  have HU := hidS (fun F W => specTill_any F now W h0 (life_bd F.state))
  obtain ⟨hc0, hc1⟩ := hc
  clear h0
  replace h6 := hidS h6
  have hGF0 : Hid ((((w.alloc (.cells #[.int .i64 fo.proto, .int .i64 fo.src, .int .i64 fo.sport, .int .i64 fo.dst, .int .i64 fo.dport, .int .i64 fo.kind, .int .i64 fb.proto, .int .i64 fb.src, .int .i64 fb.sport, .int .i64 fb.dst, .int .i64 fb.dport, .int .i64 fb.kind, .int .i64 fs, .bool fn, .bool fu, .int .i64 ft, .int .i64 fc] 29)).alloc (.cells #[.int .i64 p.src, .int .i64 p.dst, .int .i64 p.proto, .int .i64 p.a, .int .i64 p.b, .int .i64 p.kind, .int .i64 p.flags, .int .i64 p.seq, .int .i64 p.ack, .string p.body] 38)).alloc (.cells #[.int .i64 0, .int .i64 0, .int .i64 0, .int .i64 0, .int .i64 0, .int .i64 0, .int .i64 0, .int .i64 0, .int .i64 0, .int .i64 0, .int .i64 0, .int .i64 0, .int .i64 0, .bool false, .bool false, .int .i64 0, .int .i64 0, .int .i64 0] 36)).heap[w.heap.size]? = some (.cells #[.int .i64 fo.proto, .int .i64 fo.src, .int .i64 fo.sport, .int .i64 fo.dst, .int .i64 fo.dport, .int .i64 fo.kind, .int .i64 fb.proto, .int .i64 fb.src, .int .i64 fb.sport, .int .i64 fb.dst, .int .i64 fb.dport, .int .i64 fb.kind, .int .i64 fs, .bool fn, .bool fu, .int .i64 ft, .int .i64 fc] 29)) := by
    show _ = _
    have := blk_alloc (blk_alloc (heap_newG w (.cells #[.int .i64 fo.proto, .int .i64 fo.src, .int .i64 fo.sport, .int .i64 fo.dst, .int .i64 fo.dport, .int .i64 fo.kind, .int .i64 fb.proto, .int .i64 fb.src, .int .i64 fb.sport, .int .i64 fb.dst, .int .i64 fb.dport, .int .i64 fb.kind, .int .i64 fs, .bool fn, .bool fu, .int .i64 ft, .int .i64 fc] 29)) (.cells #[.int .i64 p.src, .int .i64 p.dst, .int .i64 p.proto, .int .i64 p.a, .int .i64 p.b, .int .i64 p.kind, .int .i64 p.flags, .int .i64 p.seq, .int .i64 p.ack, .string p.body] 38)) (.cells #[.int .i64 0, .int .i64 0, .int .i64 0, .int .i64 0, .int .i64 0, .int .i64 0, .int .i64 0, .int .i64 0, .int .i64 0, .int .i64 0, .int .i64 0, .int .i64 0, .int .i64 0, .bool false, .bool false, .int .i64 0, .int .i64 0, .int .i64 0] 36)
    simpa using this
  have hGP0 : Hid ((((w.alloc (.cells #[.int .i64 fo.proto, .int .i64 fo.src, .int .i64 fo.sport, .int .i64 fo.dst, .int .i64 fo.dport, .int .i64 fo.kind, .int .i64 fb.proto, .int .i64 fb.src, .int .i64 fb.sport, .int .i64 fb.dst, .int .i64 fb.dport, .int .i64 fb.kind, .int .i64 fs, .bool fn, .bool fu, .int .i64 ft, .int .i64 fc] 29)).alloc (.cells #[.int .i64 p.src, .int .i64 p.dst, .int .i64 p.proto, .int .i64 p.a, .int .i64 p.b, .int .i64 p.kind, .int .i64 p.flags, .int .i64 p.seq, .int .i64 p.ack, .string p.body] 38)).alloc (.cells #[.int .i64 0, .int .i64 0, .int .i64 0, .int .i64 0, .int .i64 0, .int .i64 0, .int .i64 0, .int .i64 0, .int .i64 0, .int .i64 0, .int .i64 0, .int .i64 0, .int .i64 0, .bool false, .bool false, .int .i64 0, .int .i64 0, .int .i64 0] 36)).heap[w.heap.size + 1]? = some (.cells #[.int .i64 p.src, .int .i64 p.dst, .int .i64 p.proto, .int .i64 p.a, .int .i64 p.b, .int .i64 p.kind, .int .i64 p.flags, .int .i64 p.seq, .int .i64 p.ack, .string p.body] 38)) := by
    show _ = _
    have := blk_alloc (heap_newG (w.alloc (.cells #[.int .i64 fo.proto, .int .i64 fo.src, .int .i64 fo.sport, .int .i64 fo.dst, .int .i64 fo.dport, .int .i64 fo.kind, .int .i64 fb.proto, .int .i64 fb.src, .int .i64 fb.sport, .int .i64 fb.dst, .int .i64 fb.dport, .int .i64 fb.kind, .int .i64 fs, .bool fn, .bool fu, .int .i64 ft, .int .i64 fc] 29)) (.cells #[.int .i64 p.src, .int .i64 p.dst, .int .i64 p.proto, .int .i64 p.a, .int .i64 p.b, .int .i64 p.kind, .int .i64 p.flags, .int .i64 p.seq, .int .i64 p.ack, .string p.body] 38)) (.cells #[.int .i64 0, .int .i64 0, .int .i64 0, .int .i64 0, .int .i64 0, .int .i64 0, .int .i64 0, .int .i64 0, .int .i64 0, .int .i64 0, .int .i64 0, .int .i64 0, .int .i64 0, .bool false, .bool false, .int .i64 0, .int .i64 0, .int .i64 0] 36)
    simpa using this
  have hGR0 : Hid ((((w.alloc (.cells #[.int .i64 fo.proto, .int .i64 fo.src, .int .i64 fo.sport, .int .i64 fo.dst, .int .i64 fo.dport, .int .i64 fo.kind, .int .i64 fb.proto, .int .i64 fb.src, .int .i64 fb.sport, .int .i64 fb.dst, .int .i64 fb.dport, .int .i64 fb.kind, .int .i64 fs, .bool fn, .bool fu, .int .i64 ft, .int .i64 fc] 29)).alloc (.cells #[.int .i64 p.src, .int .i64 p.dst, .int .i64 p.proto, .int .i64 p.a, .int .i64 p.b, .int .i64 p.kind, .int .i64 p.flags, .int .i64 p.seq, .int .i64 p.ack, .string p.body] 38)).alloc (.cells #[.int .i64 0, .int .i64 0, .int .i64 0, .int .i64 0, .int .i64 0, .int .i64 0, .int .i64 0, .int .i64 0, .int .i64 0, .int .i64 0, .int .i64 0, .int .i64 0, .int .i64 0, .bool false, .bool false, .int .i64 0, .int .i64 0, .int .i64 0] 36)).heap[w.heap.size + 2]? = some (.cells #[.int .i64 0, .int .i64 0, .int .i64 0, .int .i64 0, .int .i64 0, .int .i64 0, .int .i64 0, .int .i64 0, .int .i64 0, .int .i64 0, .int .i64 0, .int .i64 0, .int .i64 0, .bool false, .bool false, .int .i64 0, .int .i64 0, .int .i64 0] 36)) := by
    show _ = _
    have := heap_newG ((w.alloc (.cells #[.int .i64 fo.proto, .int .i64 fo.src, .int .i64 fo.sport, .int .i64 fo.dst, .int .i64 fo.dport, .int .i64 fo.kind, .int .i64 fb.proto, .int .i64 fb.src, .int .i64 fb.sport, .int .i64 fb.dst, .int .i64 fb.dport, .int .i64 fb.kind, .int .i64 fs, .bool fn, .bool fu, .int .i64 ft, .int .i64 fc] 29)).alloc (.cells #[.int .i64 p.src, .int .i64 p.dst, .int .i64 p.proto, .int .i64 p.a, .int .i64 p.b, .int .i64 p.kind, .int .i64 p.flags, .int .i64 p.seq, .int .i64 p.ack, .string p.body] 38)) (.cells #[.int .i64 0, .int .i64 0, .int .i64 0, .int .i64 0, .int .i64 0, .int .i64 0, .int .i64 0, .int .i64 0, .int .i64 0, .int .i64 0, .int .i64 0, .int .i64 0, .int .i64 0, .bool false, .bool false, .int .i64 0, .int .i64 0, .int .i64 0] 36)
    simpa using this
  have hL0 := hidS ((((Below.refl w.heap.size w).alloc (Nat.le_refl _) (.cells #[.int .i64 fo.proto, .int .i64 fo.src, .int .i64 fo.sport, .int .i64 fo.dst, .int .i64 fo.dport, .int .i64 fo.kind, .int .i64 fb.proto, .int .i64 fb.src, .int .i64 fb.sport, .int .i64 fb.dst, .int .i64 fb.dport, .int .i64 fb.kind, .int .i64 fs, .bool fn, .bool fu, .int .i64 ft, .int .i64 fc] 29)).alloc (by simp) (.cells #[.int .i64 p.src, .int .i64 p.dst, .int .i64 p.proto, .int .i64 p.a, .int .i64 p.b, .int .i64 p.kind, .int .i64 p.flags, .int .i64 p.seq, .int .i64 p.ack, .string p.body] 38)).alloc (by simp; omega) (.cells #[.int .i64 0, .int .i64 0, .int .i64 0, .int .i64 0, .int .i64 0, .int .i64 0, .int .i64 0, .int .i64 0, .int .i64 0, .int .i64 0, .int .i64 0, .int .i64 0, .int .i64 0, .bool false, .bool false, .int .i64 0, .int .i64 0, .int .i64 0] 36))
  go_enter Try.func36, Try.ntmps36
  go_upto_region 1 with fail
  generalize (((w.alloc (.cells #[.int .i64 fo.proto, .int .i64 fo.src, .int .i64 fo.sport, .int .i64 fo.dst, .int .i64 fo.dport, .int .i64 fo.kind, .int .i64 fb.proto, .int .i64 fb.src, .int .i64 fb.sport, .int .i64 fb.dst, .int .i64 fb.dport, .int .i64 fb.kind, .int .i64 fs, .bool fn, .bool fu, .int .i64 ft, .int .i64 fc] 29)).alloc (.cells #[.int .i64 p.src, .int .i64 p.dst, .int .i64 p.proto, .int .i64 p.a, .int .i64 p.b, .int .i64 p.kind, .int .i64 p.flags, .int .i64 p.seq, .int .i64 p.ack, .string p.body] 38)).alloc (.cells #[.int .i64 0, .int .i64 0, .int .i64 0, .int .i64 0, .int .i64 0, .int .i64 0, .int .i64 0, .int .i64 0, .int .i64 0, .int .i64 0, .int .i64 0, .int .i64 0, .int .i64 0, .bool false, .bool false, .int .i64 0, .int .i64 0, .int .i64 0] 36)) = w0 at hGF0 hGP0 hGR0 hL0 ⊢
  replace h6 := h6.out
  have HN := hidS (fun W => sameB (specNext_any fs b (signZ p.flags) W))
  have p6 : (p.proto == 6) = true := beq_iff_eq.2 h6
  have p17 : (p.proto == 17) = false := beq_eq_false_iff_ne.2 (by omega)
  have HX := hidS (codeX_state (f := ⟨fo, fb, fs, fn, fu, ft, fc⟩) (p := p) (b := b) h6)
  have HZ := hidS (toZ_6 (s := fs) (b := b) (f := p.flags) h6)
  have HV := hidS (fun s hs => led_eq fo fb fs ft fc fn fu p b true false s p6 p17 hs)
  have HJ : Hid ((if p.proto = 6 then toZ p.proto fs b p.flags else fs) = toZ p.proto fs b p.flags) := by show _ = _; exact if_pos h6
  clear h6
  have cP0 := blk_cell hGP0.out 0
  have cP1 := blk_cell hGP0.out 1
  have cP2 := blk_cell hGP0.out 2
  have cP3 := blk_cell hGP0.out 3
  have cP4 := blk_cell hGP0.out 4
  have cP5 := blk_cell hGP0.out 5
  have cP6 := blk_cell hGP0.out 6
  have cP7 := blk_cell hGP0.out 7
  have cP8 := blk_cell hGP0.out 8
  have cP9 := blk_cell hGP0.out 9
  simp at cP0 cP1 cP2 cP3 cP4 cP5 cP6 cP7 cP8 cP9
  go_upto_region 2 with fail
  clear cP0 cP1 cP2 cP3 cP4 cP5 cP6 cP7 cP8 cP9
  refine grow_guarded 8 [.is (.pointer (some ⟨w.heap.size, 12, none⟩)), .is (.int .i64 fs), .is (.bool b), .is (.pointer (some ⟨w.heap.size + 1, 6, none⟩)), .is (.int .i64 p.flags), .is (.int .i64 (signZ p.flags)), .is (.int .i64 (nextZ fs b (signZ p.flags))), .is (.int .i64 (nextZ fs b (signZ p.flags)))] rfl (by kernel_rfl) (by kernel_rfl) ?stepsS_14 ?finS_14
  case stepsS_14 =>
    refine ⟨?_, ?_, ?_, ?_, ?_, ?_, ?_, ?_, trivial⟩
    · refine stepW_of_u ⟨rfl, fun v W ρ hC kc kf ks ki kd => ?_⟩
      have t4 : ρ (.tmp 4) = .pointer (some ⟨w.heap.size, 0, none⟩) := ki 4 (by decide)
      simp [execOp, go_sem, kc, t4]
      exact ⟨hC, Below.refl _ _, rfl⟩
    · refine stepW_of_u ⟨rfl, fun v W ρ hC kc kf ks ki kd => ?_⟩
      have d0 : v 0 = .pointer (some ⟨w.heap.size, 12, none⟩) := by first | exact kd _ (mem0 rfl) rfl | exact kd _ (mem1 rfl) rfl | exact kd _ (mem2 rfl) rfl | exact kd _ (mem3 rfl) rfl | exact kd _ (mem4 rfl) rfl | exact kd _ (mem5 rfl) rfl | exact kd _ (Array.mem_of_getElem? (i := 6) rfl) rfl | exact kd _ (Array.mem_of_getElem? (i := 7) rfl) rfl
      have t13 : ρ (.tmp 13) = .pointer (some ⟨w.heap.size, 12, none⟩) := (ks 0 13 (by decide) rfl).trans d0
      have hg := blk_later hGF0.out hC
      have c12 := blk_cell hg 12
      simp at c12
      simp [execOp, go_sem, kc, t13, c12]
      exact ⟨hC, Below.refl _ _, rfl⟩
    · refine stepW_of_u ⟨rfl, fun v W ρ hC kc kf ks ki kd => ?_⟩
      have t2 : ρ (.tmp 2) = .bool b := ki 2 (by decide)
      simp [execOp, go_sem, kc, t2]
      exact ⟨hC, Below.refl _ _, rfl⟩
    · refine stepW_of_u ⟨rfl, fun v W ρ hC kc kf ks ki kd => ?_⟩
      have t5 : ρ (.tmp 5) = .pointer (some ⟨w.heap.size + 1, 0, none⟩) := ki 5 (by decide)
      simp [execOp, go_sem, kc, t5]
      exact ⟨hC, Below.refl _ _, rfl⟩
    · refine stepW_of_u ⟨rfl, fun v W ρ hC kc kf ks ki kd => ?_⟩
      have d3 : v 3 = .pointer (some ⟨w.heap.size + 1, 6, none⟩) := by first | exact kd _ (mem0 rfl) rfl | exact kd _ (mem1 rfl) rfl | exact kd _ (mem2 rfl) rfl | exact kd _ (mem3 rfl) rfl | exact kd _ (mem4 rfl) rfl | exact kd _ (mem5 rfl) rfl | exact kd _ (Array.mem_of_getElem? (i := 6) rfl) rfl | exact kd _ (Array.mem_of_getElem? (i := 7) rfl) rfl
      have t16 : ρ (.tmp 16) = .pointer (some ⟨w.heap.size + 1, 6, none⟩) := (ks 3 16 (by decide) rfl).trans d3
      have hg := blk_later hGP0.out hC
      have c6 := blk_cell hg 6
      simp at c6
      simp [execOp, go_sem, kc, t16, c6]
      exact ⟨hC, Below.refl _ _, rfl⟩
    · refine stepW_of_u ⟨rfl, fun v W ρ hC kc kf ks ki kd => ?_⟩
      have d4 : v 4 = .int .i64 p.flags := by first | exact kd _ (mem0 rfl) rfl | exact kd _ (mem1 rfl) rfl | exact kd _ (mem2 rfl) rfl | exact kd _ (mem3 rfl) rfl | exact kd _ (mem4 rfl) rfl | exact kd _ (mem5 rfl) rfl | exact kd _ (Array.mem_of_getElem? (i := 6) rfl) rfl | exact kd _ (Array.mem_of_getElem? (i := 7) rfl) rfl
      have t17 : ρ (.tmp 17) = .int .i64 p.flags := (ks 4 17 (by decide) rfl).trans d4
      simp [execOp, go_sem, kc, t17, kf]
      exact Calls.mono (HS.out W) (fun e x h => ⟨_, h.1, hC.trans (h.2.mono hC.size), h.2, rfl⟩)
    · refine stepW_of_u ⟨rfl, fun v W ρ hC kc kf ks ki kd => ?_⟩
      have d1 : v 1 = .int .i64 fs := by first | exact kd _ (mem0 rfl) rfl | exact kd _ (mem1 rfl) rfl | exact kd _ (mem2 rfl) rfl | exact kd _ (mem3 rfl) rfl | exact kd _ (mem4 rfl) rfl | exact kd _ (mem5 rfl) rfl | exact kd _ (Array.mem_of_getElem? (i := 6) rfl) rfl | exact kd _ (Array.mem_of_getElem? (i := 7) rfl) rfl
      have t14 : ρ (.tmp 14) = .int .i64 fs := (ks 1 14 (by decide) rfl).trans d1
      have d2 : v 2 = .bool b := by first | exact kd _ (mem0 rfl) rfl | exact kd _ (mem1 rfl) rfl | exact kd _ (mem2 rfl) rfl | exact kd _ (mem3 rfl) rfl | exact kd _ (mem4 rfl) rfl | exact kd _ (mem5 rfl) rfl | exact kd _ (Array.mem_of_getElem? (i := 6) rfl) rfl | exact kd _ (Array.mem_of_getElem? (i := 7) rfl) rfl
      have t15 : ρ (.tmp 15) = .bool b := (ks 2 15 (by decide) rfl).trans d2
      have d5 : v 5 = .int .i64 (signZ p.flags) := by first | exact kd _ (mem0 rfl) rfl | exact kd _ (mem1 rfl) rfl | exact kd _ (mem2 rfl) rfl | exact kd _ (mem3 rfl) rfl | exact kd _ (mem4 rfl) rfl | exact kd _ (mem5 rfl) rfl | exact kd _ (Array.mem_of_getElem? (i := 6) rfl) rfl | exact kd _ (Array.mem_of_getElem? (i := 7) rfl) rfl
      have t18 : ρ (.tmp 18) = .int .i64 (signZ p.flags) := (ks 5 18 (by decide) rfl).trans d5
      simp [execOp, go_sem, kc, t14, t15, t18, kf]
      exact Calls.mono (HN.out W) (fun e x h => ⟨_, h.1, hC.trans (h.2.mono hC.size), h.2, rfl⟩)
    · refine stepW_of_u ⟨rfl, fun v W ρ hC kc kf ks ki kd => ?_⟩
      have d6 : v 6 = .int .i64 (nextZ fs b (signZ p.flags)) := by first | exact kd _ (mem0 rfl) rfl | exact kd _ (mem1 rfl) rfl | exact kd _ (mem2 rfl) rfl | exact kd _ (mem3 rfl) rfl | exact kd _ (mem4 rfl) rfl | exact kd _ (mem5 rfl) rfl | exact kd _ (Array.mem_of_getElem? (i := 6) rfl) rfl | exact kd _ (Array.mem_of_getElem? (i := 7) rfl) rfl
      have t19 : ρ (.tmp 19) = .int .i64 (nextZ fs b (signZ p.flags)) := (ks 6 19 (by decide) rfl).trans d6
      simp [execOp, go_sem, kc, t19]
      exact ⟨hC, Below.refl _ _, rfl⟩
  intro vS_14 w1 hb1 hall
  have hvS_14 : vS_14 7 = .int .i64 (nextZ fs b (signZ p.flags)) := hall 7 (by decide)
  simp [upto, Act.put]
  rw [hvS_14]
  clear hall hvS_14
  have hGF1 := hidS (blk_later hGF0.out hb1)
  have hGP1 := hidS (blk_later hGP0.out hb1)
  have hGR1 := hidS (blk_later hGR0.out hb1)
  have hL1 := hidS (hL0.out.trans (hb1.mono hL0.out.size))
  clear hb1 hL0 hGF0 hGP0 hGR0
  generalize nextZ fs b (signZ p.flags) = s at *
  have HLED := hidS (HV.out s (HJ.out.trans HZ.out))
  by_cases hs : s < 0
  · have E := hidS (HX.out (by omega))
    have EF := hidS (flowX_no (f := ⟨fo, fb, fs, fn, fu, ft, fc⟩) (p := p) (b := b) now (by rw [E.out]; decide))
    clear HLED HV HJ HX HZ
    go_upto_region 4 with fail
    refine plain_into 1 _ [.is (.agg #[.int .i64 0, .int .i64 0, .int .i64 0, .int .i64 0, .int .i64 0, .int .i64 0, .int .i64 0, .int .i64 0, .int .i64 0, .int .i64 0, .int .i64 0, .int .i64 0, .int .i64 0, .bool false, .bool false, .int .i64 0, .int .i64 0, .int .i64 10])] 0 8 22 36 36 (w.heap.size + 2) #[.int .i64 0, .int .i64 0, .int .i64 0, .int .i64 0, .int .i64 0, .int .i64 0, .int .i64 0, .int .i64 0, .int .i64 0, .int .i64 0, .int .i64 0, .int .i64 0, .int .i64 0, .bool false, .bool false, .int .i64 0, .int .i64 0, .int .i64 0] #[.int .i64 0, .int .i64 0, .int .i64 0, .int .i64 0, .int .i64 0, .int .i64 0, .int .i64 0, .int .i64 0, .int .i64 0, .int .i64 0, .int .i64 0, .int .i64 0, .int .i64 0, .bool false, .bool false, .int .i64 0, .int .i64 0, .int .i64 10] rfl rfl rfl (by kernel_rfl) (by kernel_rfl) (by kernel_rfl) rfl rfl (by decide) (by kernel_rfl) (by kernel_rfl) (by decide) hGR1.out (by kernel_rfl) (by kernel_rfl) (by first | kernel_rfl | simp [Value.oneCell']) (by kernel_rfl) ?stepsZ4_15 ?finZ4_15
    case stepsZ4_15 =>
      refine ⟨?_, trivial⟩
      · refine ⟨rfl, fun v W ρ hC kc kf ks ki kd => ?_⟩
        simp [execOp, go_sem, kc, kf]
        exact Calls.mono (HI10.out W) (fun e x h => ⟨_, h.1, hC.trans (h.2.mono hC.size), h.2, rfl⟩)
    intro vZ4_15 WZ4_15 hBZ4_15 hgZ4_15 hall
    simp [upto, Act.put]
    clear hall
    have hEZ4_15 := hidS (hL1.out.trans (hBZ4_15 w.heap.size (by omega)))
    have hcZ4_15 := loadVar_blk (P := Try.prog) hgZ4_15 Try.underlying36 rfl (by kernel_rfl)
    clear hBZ4_15 hgZ4_15 hL1 hGF1 hGP1 hGR1
    go_wp2_with fail
    exact bodyPost_ret (v := .agg #[.int .i64 0, .int .i64 0, .int .i64 0, .int .i64 0, .int .i64 0, .int .i64 0, .int .i64 0, .int .i64 0, .int .i64 0, .int .i64 0, .int .i64 0, .int .i64 0, .int .i64 0, .bool false, .bool false, .int .i64 0, .int .i64 0, .int .i64 10]) (results_cell Try.results36 rfl hcZ4_15) rfl ⟨by rw [EF.out, E.out]; rfl, hEZ4_15.out⟩
  have EN : Hid (¬ (p.proto = 6 ∧ toZ p.proto fs b p.flags < 0)) := fun h => by have h2 := h.2; rw [HZ.out] at h2; omega
  clear HV HJ HX HZ HS HN HI10
  have cF0 := blk_cell hGF1.out 0
  have cF1 := blk_cell hGF1.out 1
  have cF2 := blk_cell hGF1.out 2
  have cF3 := blk_cell hGF1.out 3
  have cF4 := blk_cell hGF1.out 4
  have cF5 := blk_cell hGF1.out 5
  have cF6 := blk_cell hGF1.out 6
  have cF7 := blk_cell hGF1.out 7
  have cF8 := blk_cell hGF1.out 8
  have cF9 := blk_cell hGF1.out 9
  have cF10 := blk_cell hGF1.out 10
  have cF11 := blk_cell hGF1.out 11
  have cF12 := blk_cell hGF1.out 12
  have cF13 := blk_cell hGF1.out 13
  have cF14 := blk_cell hGF1.out 14
  have cF15 := blk_cell hGF1.out 15
  have cF16 := blk_cell hGF1.out 16
  simp at cF0 cF1 cF2 cF3 cF4 cF5 cF6 cF7 cF8 cF9 cF10 cF11 cF12 cF13 cF14 cF15 cF16
  have kF := blk_cell hGF1.out
  have fF := blk_free hGF1.out
  go_upto_region 6 with fail
  clear cF0 cF1 cF2 cF3 cF4 cF5 cF6 cF7 cF8 cF9 cF10 cF11 cF12 cF13 cF14 cF15 cF16 kF fF
  have hGF2 : Hid ((w1.setCell ⟨w.heap.size, 12, none⟩ (.int .i64 s)).heap[w.heap.size]? = some (.cells #[.int .i64 fo.proto, .int .i64 fo.src, .int .i64 fo.sport, .int .i64 fo.dst, .int .i64 fo.dport, .int .i64 fo.kind, .int .i64 fb.proto, .int .i64 fb.src, .int .i64 fb.sport, .int .i64 fb.dst, .int .i64 fb.dport, .int .i64 fb.kind, .int .i64 s, .bool fn, .bool fu, .int .i64 ft, .int .i64 fc] 29)) := by
    have := (blk_set hGF1.out 12 (.int .i64 s))
    exact this
  have hGP2 := hidS (blk_other (B := w.heap.size) hGP1.out (by omega) 12 (.int .i64 s))
  have hGR2 := hidS (blk_other (B := w.heap.size) hGR1.out (by omega) 12 (.int .i64 s))
  have hL2 := hidS (below_at (k := 12) (b := w.heap.size) (v := .int .i64 s) hL1.out (by omega))
  clear hL1 hGF1 hGP1 hGR1
  generalize (w1.setCell ⟨w.heap.size, 12, none⟩ (.int .i64 s)) = w2 at hGF2 hGP2 hGR2 hL2 ⊢
  clear hs
  by_cases hq : fc = 1000000
  · have E := hidS (codeX_full (f := ⟨fo, fb, fs, fn, fu, ft, fc⟩) (p := p) (b := b) EN.out hq)
    have EX := hidS (flowX_no (f := ⟨fo, fb, fs, fn, fu, ft, fc⟩) (p := p) (b := b) now (by rw [E.out]; decide))
    have hq2 : 1000000 ≤ fc := by omega
    clear hq HLED
    have cP0 := blk_cell hGP2.out 0
    have cP1 := blk_cell hGP2.out 1
    have cP2 := blk_cell hGP2.out 2
    have cP3 := blk_cell hGP2.out 3
    have cP4 := blk_cell hGP2.out 4
    have cP5 := blk_cell hGP2.out 5
    have cP6 := blk_cell hGP2.out 6
    have cP7 := blk_cell hGP2.out 7
    have cP8 := blk_cell hGP2.out 8
    have cP9 := blk_cell hGP2.out 9
    simp at cP0 cP1 cP2 cP3 cP4 cP5 cP6 cP7 cP8 cP9
    have cF0 := blk_cell hGF2.out 0
    have cF1 := blk_cell hGF2.out 1
    have cF2 := blk_cell hGF2.out 2
    have cF3 := blk_cell hGF2.out 3
    have cF4 := blk_cell hGF2.out 4
    have cF5 := blk_cell hGF2.out 5
    have cF6 := blk_cell hGF2.out 6
    have cF7 := blk_cell hGF2.out 7
    have cF8 := blk_cell hGF2.out 8
    have cF9 := blk_cell hGF2.out 9
    have cF10 := blk_cell hGF2.out 10
    have cF11 := blk_cell hGF2.out 11
    have cF12 := blk_cell hGF2.out 12
    have cF13 := blk_cell hGF2.out 13
    have cF14 := blk_cell hGF2.out 14
    have cF15 := blk_cell hGF2.out 15
    have cF16 := blk_cell hGF2.out 16
    simp at cF0 cF1 cF2 cF3 cF4 cF5 cF6 cF7 cF8 cF9 cF10 cF11 cF12 cF13 cF14 cF15 cF16
    go_upto_region 7 with fail
    clear cP0 cP1 cP2 cP3 cP4 cP5 cP6 cP7 cP8 cP9 cF0 cF1 cF2 cF3 cF4 cF5 cF6 cF7 cF8 cF9 cF10 cF11 cF12 cF13 cF14 cF15 cF16
    refine plain_into 1 _ [.is (.agg #[.int .i64 0, .int .i64 0, .int .i64 0, .int .i64 0, .int .i64 0, .int .i64 0, .int .i64 0, .int .i64 0, .int .i64 0, .int .i64 0, .int .i64 0, .int .i64 0, .int .i64 0, .bool false, .bool false, .int .i64 0, .int .i64 0, .int .i64 9])] 0 8 28 36 36 (w.heap.size + 2) #[.int .i64 0, .int .i64 0, .int .i64 0, .int .i64 0, .int .i64 0, .int .i64 0, .int .i64 0, .int .i64 0, .int .i64 0, .int .i64 0, .int .i64 0, .int .i64 0, .int .i64 0, .bool false, .bool false, .int .i64 0, .int .i64 0, .int .i64 0] #[.int .i64 0, .int .i64 0, .int .i64 0, .int .i64 0, .int .i64 0, .int .i64 0, .int .i64 0, .int .i64 0, .int .i64 0, .int .i64 0, .int .i64 0, .int .i64 0, .int .i64 0, .bool false, .bool false, .int .i64 0, .int .i64 0, .int .i64 9] rfl rfl rfl (by kernel_rfl) (by kernel_rfl) (by kernel_rfl) rfl rfl (by decide) (by kernel_rfl) (by kernel_rfl) (by decide) hGR2.out (by kernel_rfl) (by kernel_rfl) (by first | kernel_rfl | simp [Value.oneCell']) (by kernel_rfl) ?stepsZ7_16 ?finZ7_16
    case stepsZ7_16 =>
      refine ⟨?_, trivial⟩
      · refine ⟨rfl, fun v W ρ hC kc kf ks ki kd => ?_⟩
        simp [execOp, go_sem, kc, kf]
        exact Calls.mono (HI9.out W) (fun e x h => ⟨_, h.1, hC.trans (h.2.mono hC.size), h.2, rfl⟩)
    intro vZ7_16 WZ7_16 hBZ7_16 hgZ7_16 hall
    simp [upto, Act.put]
    clear hall
    have hEZ7_16 := hidS (hL2.out.trans (hBZ7_16 w.heap.size (by omega)))
    have hcZ7_16 := loadVar_blk (P := Try.prog) hgZ7_16 Try.underlying36 rfl (by kernel_rfl)
    clear hBZ7_16 hgZ7_16 hL2 hGF2 hGP2 hGR2
    go_wp2_with fail
    exact bodyPost_ret (v := .agg #[.int .i64 0, .int .i64 0, .int .i64 0, .int .i64 0, .int .i64 0, .int .i64 0, .int .i64 0, .int .i64 0, .int .i64 0, .int .i64 0, .int .i64 0, .int .i64 0, .int .i64 0, .bool false, .bool false, .int .i64 0, .int .i64 0, .int .i64 9]) (results_cell Try.results36 rfl hcZ7_16) rfl ⟨by rw [EX.out, E.out]; rfl, hEZ7_16.out⟩
  have EC := hidS (codeX_ok (f := ⟨fo, fb, fs, fn, fu, ft, fc⟩) (p := p) (b := b) EN.out hq)
  have hq2 : fc < 1000000 := by omega
  clear hq
  have cP0 := blk_cell hGP2.out 0
  have cP1 := blk_cell hGP2.out 1
  have cP2 := blk_cell hGP2.out 2
  have cP3 := blk_cell hGP2.out 3
  have cP4 := blk_cell hGP2.out 4
  have cP5 := blk_cell hGP2.out 5
  have cP6 := blk_cell hGP2.out 6
  have cP7 := blk_cell hGP2.out 7
  have cP8 := blk_cell hGP2.out 8
  have cP9 := blk_cell hGP2.out 9
  simp at cP0 cP1 cP2 cP3 cP4 cP5 cP6 cP7 cP8 cP9
  have cF0 := blk_cell hGF2.out 0
  have cF1 := blk_cell hGF2.out 1
  have cF2 := blk_cell hGF2.out 2
  have cF3 := blk_cell hGF2.out 3
  have cF4 := blk_cell hGF2.out 4
  have cF5 := blk_cell hGF2.out 5
  have cF6 := blk_cell hGF2.out 6
  have cF7 := blk_cell hGF2.out 7
  have cF8 := blk_cell hGF2.out 8
  have cF9 := blk_cell hGF2.out 9
  have cF10 := blk_cell hGF2.out 10
  have cF11 := blk_cell hGF2.out 11
  have cF12 := blk_cell hGF2.out 12
  have cF13 := blk_cell hGF2.out 13
  have cF14 := blk_cell hGF2.out 14
  have cF15 := blk_cell hGF2.out 15
  have cF16 := blk_cell hGF2.out 16
  simp at cF0 cF1 cF2 cF3 cF4 cF5 cF6 cF7 cF8 cF9 cF10 cF11 cF12 cF13 cF14 cF15 cF16
  go_upto_region 8 with fail
  clear cP0 cP1 cP2 cP3 cP4 cP5 cP6 cP7 cP8 cP9 cF0 cF1 cF2 cF3 cF4 cF5 cF6 cF7 cF8 cF9 cF10 cF11 cF12 cF13 cF14 cF15 cF16
  cases fn
  · cases fu
    · cases b
      · have EX := hidS (flowX_yes now ⟨fo, fb, s, false, false, ft, fc⟩ EC.out (HLED.out.trans (by simp)))
        have cP0 := blk_cell hGP2.out 0
        have cP1 := blk_cell hGP2.out 1
        have cP2 := blk_cell hGP2.out 2
        have cP3 := blk_cell hGP2.out 3
        have cP4 := blk_cell hGP2.out 4
        have cP5 := blk_cell hGP2.out 5
        have cP6 := blk_cell hGP2.out 6
        have cP7 := blk_cell hGP2.out 7
        have cP8 := blk_cell hGP2.out 8
        have cP9 := blk_cell hGP2.out 9
        simp at cP0 cP1 cP2 cP3 cP4 cP5 cP6 cP7 cP8 cP9
        have cF0 := blk_cell hGF2.out 0
        have cF1 := blk_cell hGF2.out 1
        have cF2 := blk_cell hGF2.out 2
        have cF3 := blk_cell hGF2.out 3
        have cF4 := blk_cell hGF2.out 4
        have cF5 := blk_cell hGF2.out 5
        have cF6 := blk_cell hGF2.out 6
        have cF7 := blk_cell hGF2.out 7
        have cF8 := blk_cell hGF2.out 8
        have cF9 := blk_cell hGF2.out 9
        have cF10 := blk_cell hGF2.out 10
        have cF11 := blk_cell hGF2.out 11
        have cF12 := blk_cell hGF2.out 12
        have cF13 := blk_cell hGF2.out 13
        have cF14 := blk_cell hGF2.out 14
        have cF15 := blk_cell hGF2.out 15
        have cF16 := blk_cell hGF2.out 16
        simp at cF0 cF1 cF2 cF3 cF4 cF5 cF6 cF7 cF8 cF9 cF10 cF11 cF12 cF13 cF14 cF15 cF16
        have kF := blk_cell hGF2.out
        have fF := blk_free hGF2.out
        go_upto_region 10 with fail
        clear cP0 cP1 cP2 cP3 cP4 cP5 cP6 cP7 cP8 cP9 cF0 cF1 cF2 cF3 cF4 cF5 cF6 cF7 cF8 cF9 cF10 cF11 cF12 cF13 cF14 cF15 cF16 kF fF
        have hGF3 : Hid (((w2.setCell ⟨w.heap.size, 13, none⟩ (.bool false)).setCell ⟨w.heap.size, 14, none⟩ (.bool false)).heap[w.heap.size]? = some (.cells #[.int .i64 fo.proto, .int .i64 fo.src, .int .i64 fo.sport, .int .i64 fo.dst, .int .i64 fo.dport, .int .i64 fo.kind, .int .i64 fb.proto, .int .i64 fb.src, .int .i64 fb.sport, .int .i64 fb.dst, .int .i64 fb.dport, .int .i64 fb.kind, .int .i64 s, .bool false, .bool false, .int .i64 ft, .int .i64 fc] 29)) := by
          have := (blk_set (blk_set hGF2.out 13 (.bool false)) 14 (.bool false))
          exact this
        have hGP3 := hidS (blk_other (B := w.heap.size) (blk_other (B := w.heap.size) hGP2.out (by omega) 13 (.bool false)) (by omega) 14 (.bool false))
        have hGR3 := hidS (blk_other (B := w.heap.size) (blk_other (B := w.heap.size) hGR2.out (by omega) 13 (.bool false)) (by omega) 14 (.bool false))
        have hL3 := hidS (below_at (k := 14) (b := w.heap.size) (v := .bool false) (below_at (k := 13) (b := w.heap.size) (v := .bool false) hL2.out (by omega)) (by omega))
        clear hL2 hGF2 hGP2 hGR2
        generalize ((w2.setCell ⟨w.heap.size, 13, none⟩ (.bool false)).setCell ⟨w.heap.size, 14, none⟩ (.bool false)) = w3 at hGF3 hGP3 hGR3 hL3 ⊢
        go_wp2_with (first | refine wpList_load_blk 29 (.tmp 4) rfl rfl rfl hGF3.out Try.underlying29 rfl (by kernel_rfl) ?_)
        refine (HU.out ⟨fo, fb, s, false, false, ft, fc⟩ _).mono ?_
        rintro _ w4 ⟨rfl, hb4⟩
        have hGF4 := hidS (blk_later hGF3.out hb4)
        have hGP4 := hidS (blk_later hGP3.out hb4)
        have hGR4 := hidS (blk_later hGR3.out hb4)
        have hL4 := hidS (hL3.out.trans (hb4.mono hL3.out.size))
        clear hb4 hL3 hGF3 hGP3 hGR3
        generalize hTL : tillF ⟨fo, fb, s, false, false, ft, fc⟩ now = tl at *
        have cF0 := blk_cell hGF4.out 0
        have cF1 := blk_cell hGF4.out 1
        have cF2 := blk_cell hGF4.out 2
        have cF3 := blk_cell hGF4.out 3
        have cF4 := blk_cell hGF4.out 4
        have cF5 := blk_cell hGF4.out 5
        have cF6 := blk_cell hGF4.out 6
        have cF7 := blk_cell hGF4.out 7
        have cF8 := blk_cell hGF4.out 8
        have cF9 := blk_cell hGF4.out 9
        have cF10 := blk_cell hGF4.out 10
        have cF11 := blk_cell hGF4.out 11
        have cF12 := blk_cell hGF4.out 12
        have cF13 := blk_cell hGF4.out 13
        have cF14 := blk_cell hGF4.out 14
        have cF15 := blk_cell hGF4.out 15
        have cF16 := blk_cell hGF4.out 16
        simp at cF0 cF1 cF2 cF3 cF4 cF5 cF6 cF7 cF8 cF9 cF10 cF11 cF12 cF13 cF14 cF15 cF16
        have kF := blk_cell hGF4.out
        have fF := blk_free hGF4.out
        go_upto_region 12 with fail
        clear cF0 cF1 cF2 cF3 cF4 cF5 cF6 cF7 cF8 cF9 cF10 cF11 cF12 cF13 cF14 cF15 cF16 kF fF
        have hGF5 : Hid (((w4.setCell ⟨w.heap.size, 15, none⟩ (.int .i64 tl)).setCell ⟨w.heap.size, 16, none⟩ (.int .i64 (fc + 1))).heap[w.heap.size]? = some (.cells #[.int .i64 fo.proto, .int .i64 fo.src, .int .i64 fo.sport, .int .i64 fo.dst, .int .i64 fo.dport, .int .i64 fo.kind, .int .i64 fb.proto, .int .i64 fb.src, .int .i64 fb.sport, .int .i64 fb.dst, .int .i64 fb.dport, .int .i64 fb.kind, .int .i64 s, .bool false, .bool false, .int .i64 tl, .int .i64 (fc + 1)] 29)) := by
          have := (blk_set (blk_set hGF4.out 15 (.int .i64 tl)) 16 (.int .i64 (fc + 1)))
          exact this
        have hGP5 := hidS (blk_other (B := w.heap.size) (blk_other (B := w.heap.size) hGP4.out (by omega) 15 (.int .i64 tl)) (by omega) 16 (.int .i64 (fc + 1)))
        have hGR5 := hidS (blk_other (B := w.heap.size) (blk_other (B := w.heap.size) hGR4.out (by omega) 15 (.int .i64 tl)) (by omega) 16 (.int .i64 (fc + 1)))
        have hL5 := hidS (below_at (k := 16) (b := w.heap.size) (v := .int .i64 (fc + 1)) (below_at (k := 15) (b := w.heap.size) (v := .int .i64 tl) hL4.out (by omega)) (by omega))
        clear hL4 hGF4 hGP4 hGR4
        generalize ((w4.setCell ⟨w.heap.size, 15, none⟩ (.int .i64 tl)).setCell ⟨w.heap.size, 16, none⟩ (.int .i64 (fc + 1))) = w5 at hGF5 hGP5 hGR5 hL5 ⊢
        refine plain_into 2 _ [.is (.agg #[.int .i64 fo.proto, .int .i64 fo.src, .int .i64 fo.sport, .int .i64 fo.dst, .int .i64 fo.dport, .int .i64 fo.kind, .int .i64 fb.proto, .int .i64 fb.src, .int .i64 fb.sport, .int .i64 fb.dst, .int .i64 fb.dport, .int .i64 fb.kind, .int .i64 s, .bool false, .bool false, .int .i64 tl, .int .i64 (fc + 1)]), .is (.agg #[.int .i64 fo.proto, .int .i64 fo.src, .int .i64 fo.sport, .int .i64 fo.dst, .int .i64 fo.dport, .int .i64 fo.kind, .int .i64 fb.proto, .int .i64 fb.src, .int .i64 fb.sport, .int .i64 fb.dst, .int .i64 fb.dport, .int .i64 fb.kind, .int .i64 s, .bool false, .bool false, .int .i64 tl, .int .i64 (fc + 1), .int .i64 0])] 1 8 74 36 36 (w.heap.size + 2) #[.int .i64 0, .int .i64 0, .int .i64 0, .int .i64 0, .int .i64 0, .int .i64 0, .int .i64 0, .int .i64 0, .int .i64 0, .int .i64 0, .int .i64 0, .int .i64 0, .int .i64 0, .bool false, .bool false, .int .i64 0, .int .i64 0, .int .i64 0] #[.int .i64 fo.proto, .int .i64 fo.src, .int .i64 fo.sport, .int .i64 fo.dst, .int .i64 fo.dport, .int .i64 fo.kind, .int .i64 fb.proto, .int .i64 fb.src, .int .i64 fb.sport, .int .i64 fb.dst, .int .i64 fb.dport, .int .i64 fb.kind, .int .i64 s, .bool false, .bool false, .int .i64 tl, .int .i64 (fc + 1), .int .i64 0] rfl rfl rfl (by kernel_rfl) (by kernel_rfl) (by kernel_rfl) rfl rfl (by decide) (by kernel_rfl) (by kernel_rfl) (by decide) hGR5.out (by kernel_rfl) (by kernel_rfl) (by first | kernel_rfl | simp [Value.oneCell']) (by kernel_rfl) ?stepsY_17 ?finY_17
        case stepsY_17 =>
          refine ⟨?_, ?_, trivial⟩
          · refine ⟨rfl, fun v W ρ hC kc kf ks ki kd => ?_⟩
            have t4 : ρ (.tmp 4) = .pointer (some ⟨w.heap.size, 0, none⟩) := ki 4 (by decide)
            simp only [execOp, t4, Sem.run_bind, loadAt_part (o := 0) [.int .i64 fo.proto, .int .i64 fo.src, .int .i64 fo.sport, .int .i64 fo.dst, .int .i64 fo.dport, .int .i64 fo.kind, .int .i64 fb.proto, .int .i64 fb.src, .int .i64 fb.sport, .int .i64 fb.dst, .int .i64 fb.dport, .int .i64 fb.kind, .int .i64 s, .bool false, .bool false, .int .i64 tl, .int .i64 (fc + 1)] (blk_later hGF5.out hC) rfl Try.underlying29 rfl (by kernel_rfl), Result.andThen_ok, Sem.run_pure]
            exact ⟨hC, Below.refl _ _, rfl⟩
          · refine ⟨rfl, fun v W ρ hC kc kf ks ki kd => ?_⟩
            have d0 : v 0 = .agg #[.int .i64 fo.proto, .int .i64 fo.src, .int .i64 fo.sport, .int .i64 fo.dst, .int .i64 fo.dport, .int .i64 fo.kind, .int .i64 fb.proto, .int .i64 fb.src, .int .i64 fb.sport, .int .i64 fb.dst, .int .i64 fb.dport, .int .i64 fb.kind, .int .i64 s, .bool false, .bool false, .int .i64 tl, .int .i64 (fc + 1)] := by first | exact kd _ (mem0 rfl) rfl | exact kd _ (mem1 rfl) rfl | exact kd _ (mem2 rfl) rfl | exact kd _ (mem3 rfl) rfl | exact kd _ (mem4 rfl) rfl | exact kd _ (mem5 rfl) rfl | exact kd _ (Array.mem_of_getElem? (i := 6) rfl) rfl | exact kd _ (Array.mem_of_getElem? (i := 7) rfl) rfl
            have t73 : ρ (.tmp 73) = .agg #[.int .i64 fo.proto, .int .i64 fo.src, .int .i64 fo.sport, .int .i64 fo.dst, .int .i64 fo.dport, .int .i64 fo.kind, .int .i64 fb.proto, .int .i64 fb.src, .int .i64 fb.sport, .int .i64 fb.dst, .int .i64 fb.dport, .int .i64 fb.kind, .int .i64 s, .bool false, .bool false, .int .i64 tl, .int .i64 (fc + 1)] := (ks 0 73 (by decide) rfl).trans d0
            simp [execOp, go_sem, kc, t73]
            exact ⟨hC, Below.refl _ _, rfl⟩
        intro vY_17 WY_17 hBY_17 hgY_17 hall
        simp [upto, Act.put]
        clear hall
        have hEY_17 := hidS (hL5.out.trans (hBY_17 w.heap.size (by omega)))
        have hcY_17 := loadVar_blk (P := Try.prog) hgY_17 Try.underlying36 rfl (by kernel_rfl)
        clear hBY_17 hgY_17 hL5 hGF5 hGP5 hGR5
        go_wp2_with fail
        exact bodyPost_ret (v := .agg #[.int .i64 fo.proto, .int .i64 fo.src, .int .i64 fo.sport, .int .i64 fo.dst, .int .i64 fo.dport, .int .i64 fo.kind, .int .i64 fb.proto, .int .i64 fb.src, .int .i64 fb.sport, .int .i64 fb.dst, .int .i64 fb.dport, .int .i64 fb.kind, .int .i64 s, .bool false, .bool false, .int .i64 tl, .int .i64 (fc + 1), .int .i64 0]) (results_cell Try.results36 rfl hcY_17) rfl ⟨by rw [EX.out, EC.out] ; first | done | rfl, hEY_17.out⟩
      · cases h3 : (s == 3)
        · have EX := hidS (flowX_yes now ⟨fo, fb, s, true, false, ft, fc⟩ EC.out (HLED.out.trans (by simp [h3])))
          have cP0 := blk_cell hGP2.out 0
          have cP1 := blk_cell hGP2.out 1
          have cP2 := blk_cell hGP2.out 2
          have cP3 := blk_cell hGP2.out 3
          have cP4 := blk_cell hGP2.out 4
          have cP5 := blk_cell hGP2.out 5
          have cP6 := blk_cell hGP2.out 6
          have cP7 := blk_cell hGP2.out 7
          have cP8 := blk_cell hGP2.out 8
          have cP9 := blk_cell hGP2.out 9
          simp at cP0 cP1 cP2 cP3 cP4 cP5 cP6 cP7 cP8 cP9
          have cF0 := blk_cell hGF2.out 0
          have cF1 := blk_cell hGF2.out 1
          have cF2 := blk_cell hGF2.out 2
          have cF3 := blk_cell hGF2.out 3
          have cF4 := blk_cell hGF2.out 4
          have cF5 := blk_cell hGF2.out 5
          have cF6 := blk_cell hGF2.out 6
          have cF7 := blk_cell hGF2.out 7
          have cF8 := blk_cell hGF2.out 8
          have cF9 := blk_cell hGF2.out 9
          have cF10 := blk_cell hGF2.out 10
          have cF11 := blk_cell hGF2.out 11
          have cF12 := blk_cell hGF2.out 12
          have cF13 := blk_cell hGF2.out 13
          have cF14 := blk_cell hGF2.out 14
          have cF15 := blk_cell hGF2.out 15
          have cF16 := blk_cell hGF2.out 16
          simp at cF0 cF1 cF2 cF3 cF4 cF5 cF6 cF7 cF8 cF9 cF10 cF11 cF12 cF13 cF14 cF15 cF16
          have kF := blk_cell hGF2.out
          have fF := blk_free hGF2.out
          go_upto_region 10 with fail
          clear cP0 cP1 cP2 cP3 cP4 cP5 cP6 cP7 cP8 cP9 cF0 cF1 cF2 cF3 cF4 cF5 cF6 cF7 cF8 cF9 cF10 cF11 cF12 cF13 cF14 cF15 cF16 kF fF
          have hGF3 : Hid (((w2.setCell ⟨w.heap.size, 13, none⟩ (.bool true)).setCell ⟨w.heap.size, 14, none⟩ (.bool false)).heap[w.heap.size]? = some (.cells #[.int .i64 fo.proto, .int .i64 fo.src, .int .i64 fo.sport, .int .i64 fo.dst, .int .i64 fo.dport, .int .i64 fo.kind, .int .i64 fb.proto, .int .i64 fb.src, .int .i64 fb.sport, .int .i64 fb.dst, .int .i64 fb.dport, .int .i64 fb.kind, .int .i64 s, .bool true, .bool false, .int .i64 ft, .int .i64 fc] 29)) := by
            have := (blk_set (blk_set hGF2.out 13 (.bool true)) 14 (.bool false))
            exact this
          have hGP3 := hidS (blk_other (B := w.heap.size) (blk_other (B := w.heap.size) hGP2.out (by omega) 13 (.bool true)) (by omega) 14 (.bool false))
          have hGR3 := hidS (blk_other (B := w.heap.size) (blk_other (B := w.heap.size) hGR2.out (by omega) 13 (.bool true)) (by omega) 14 (.bool false))
          have hL3 := hidS (below_at (k := 14) (b := w.heap.size) (v := .bool false) (below_at (k := 13) (b := w.heap.size) (v := .bool true) hL2.out (by omega)) (by omega))
          clear hL2 hGF2 hGP2 hGR2
          generalize ((w2.setCell ⟨w.heap.size, 13, none⟩ (.bool true)).setCell ⟨w.heap.size, 14, none⟩ (.bool false)) = w3 at hGF3 hGP3 hGR3 hL3 ⊢
          go_wp2_with (first | refine wpList_load_blk 29 (.tmp 4) rfl rfl rfl hGF3.out Try.underlying29 rfl (by kernel_rfl) ?_)
          refine (HU.out ⟨fo, fb, s, true, false, ft, fc⟩ _).mono ?_
          rintro _ w4 ⟨rfl, hb4⟩
          have hGF4 := hidS (blk_later hGF3.out hb4)
          have hGP4 := hidS (blk_later hGP3.out hb4)
          have hGR4 := hidS (blk_later hGR3.out hb4)
          have hL4 := hidS (hL3.out.trans (hb4.mono hL3.out.size))
          clear hb4 hL3 hGF3 hGP3 hGR3
          generalize hTL : tillF ⟨fo, fb, s, true, false, ft, fc⟩ now = tl at *
          have cF0 := blk_cell hGF4.out 0
          have cF1 := blk_cell hGF4.out 1
          have cF2 := blk_cell hGF4.out 2
          have cF3 := blk_cell hGF4.out 3
          have cF4 := blk_cell hGF4.out 4
          have cF5 := blk_cell hGF4.out 5
          have cF6 := blk_cell hGF4.out 6
          have cF7 := blk_cell hGF4.out 7
          have cF8 := blk_cell hGF4.out 8
          have cF9 := blk_cell hGF4.out 9
          have cF10 := blk_cell hGF4.out 10
          have cF11 := blk_cell hGF4.out 11
          have cF12 := blk_cell hGF4.out 12
          have cF13 := blk_cell hGF4.out 13
          have cF14 := blk_cell hGF4.out 14
          have cF15 := blk_cell hGF4.out 15
          have cF16 := blk_cell hGF4.out 16
          simp at cF0 cF1 cF2 cF3 cF4 cF5 cF6 cF7 cF8 cF9 cF10 cF11 cF12 cF13 cF14 cF15 cF16
          have kF := blk_cell hGF4.out
          have fF := blk_free hGF4.out
          go_upto_region 12 with fail
          clear cF0 cF1 cF2 cF3 cF4 cF5 cF6 cF7 cF8 cF9 cF10 cF11 cF12 cF13 cF14 cF15 cF16 kF fF
          have hGF5 : Hid (((w4.setCell ⟨w.heap.size, 15, none⟩ (.int .i64 tl)).setCell ⟨w.heap.size, 16, none⟩ (.int .i64 (fc + 1))).heap[w.heap.size]? = some (.cells #[.int .i64 fo.proto, .int .i64 fo.src, .int .i64 fo.sport, .int .i64 fo.dst, .int .i64 fo.dport, .int .i64 fo.kind, .int .i64 fb.proto, .int .i64 fb.src, .int .i64 fb.sport, .int .i64 fb.dst, .int .i64 fb.dport, .int .i64 fb.kind, .int .i64 s, .bool true, .bool false, .int .i64 tl, .int .i64 (fc + 1)] 29)) := by
            have := (blk_set (blk_set hGF4.out 15 (.int .i64 tl)) 16 (.int .i64 (fc + 1)))
            exact this
          have hGP5 := hidS (blk_other (B := w.heap.size) (blk_other (B := w.heap.size) hGP4.out (by omega) 15 (.int .i64 tl)) (by omega) 16 (.int .i64 (fc + 1)))
          have hGR5 := hidS (blk_other (B := w.heap.size) (blk_other (B := w.heap.size) hGR4.out (by omega) 15 (.int .i64 tl)) (by omega) 16 (.int .i64 (fc + 1)))
          have hL5 := hidS (below_at (k := 16) (b := w.heap.size) (v := .int .i64 (fc + 1)) (below_at (k := 15) (b := w.heap.size) (v := .int .i64 tl) hL4.out (by omega)) (by omega))
          clear hL4 hGF4 hGP4 hGR4
          generalize ((w4.setCell ⟨w.heap.size, 15, none⟩ (.int .i64 tl)).setCell ⟨w.heap.size, 16, none⟩ (.int .i64 (fc + 1))) = w5 at hGF5 hGP5 hGR5 hL5 ⊢
          refine plain_into 2 _ [.is (.agg #[.int .i64 fo.proto, .int .i64 fo.src, .int .i64 fo.sport, .int .i64 fo.dst, .int .i64 fo.dport, .int .i64 fo.kind, .int .i64 fb.proto, .int .i64 fb.src, .int .i64 fb.sport, .int .i64 fb.dst, .int .i64 fb.dport, .int .i64 fb.kind, .int .i64 s, .bool true, .bool false, .int .i64 tl, .int .i64 (fc + 1)]), .is (.agg #[.int .i64 fo.proto, .int .i64 fo.src, .int .i64 fo.sport, .int .i64 fo.dst, .int .i64 fo.dport, .int .i64 fo.kind, .int .i64 fb.proto, .int .i64 fb.src, .int .i64 fb.sport, .int .i64 fb.dst, .int .i64 fb.dport, .int .i64 fb.kind, .int .i64 s, .bool true, .bool false, .int .i64 tl, .int .i64 (fc + 1), .int .i64 0])] 1 8 74 36 36 (w.heap.size + 2) #[.int .i64 0, .int .i64 0, .int .i64 0, .int .i64 0, .int .i64 0, .int .i64 0, .int .i64 0, .int .i64 0, .int .i64 0, .int .i64 0, .int .i64 0, .int .i64 0, .int .i64 0, .bool false, .bool false, .int .i64 0, .int .i64 0, .int .i64 0] #[.int .i64 fo.proto, .int .i64 fo.src, .int .i64 fo.sport, .int .i64 fo.dst, .int .i64 fo.dport, .int .i64 fo.kind, .int .i64 fb.proto, .int .i64 fb.src, .int .i64 fb.sport, .int .i64 fb.dst, .int .i64 fb.dport, .int .i64 fb.kind, .int .i64 s, .bool true, .bool false, .int .i64 tl, .int .i64 (fc + 1), .int .i64 0] rfl rfl rfl (by kernel_rfl) (by kernel_rfl) (by kernel_rfl) rfl rfl (by decide) (by kernel_rfl) (by kernel_rfl) (by decide) hGR5.out (by kernel_rfl) (by kernel_rfl) (by first | kernel_rfl | simp [Value.oneCell']) (by kernel_rfl) ?stepsY_18 ?finY_18
          case stepsY_18 =>
            refine ⟨?_, ?_, trivial⟩
            · refine ⟨rfl, fun v W ρ hC kc kf ks ki kd => ?_⟩
              have t4 : ρ (.tmp 4) = .pointer (some ⟨w.heap.size, 0, none⟩) := ki 4 (by decide)
              simp only [execOp, t4, Sem.run_bind, loadAt_part (o := 0) [.int .i64 fo.proto, .int .i64 fo.src, .int .i64 fo.sport, .int .i64 fo.dst, .int .i64 fo.dport, .int .i64 fo.kind, .int .i64 fb.proto, .int .i64 fb.src, .int .i64 fb.sport, .int .i64 fb.dst, .int .i64 fb.dport, .int .i64 fb.kind, .int .i64 s, .bool true, .bool false, .int .i64 tl, .int .i64 (fc + 1)] (blk_later hGF5.out hC) rfl Try.underlying29 rfl (by kernel_rfl), Result.andThen_ok, Sem.run_pure]
              exact ⟨hC, Below.refl _ _, rfl⟩
            · refine ⟨rfl, fun v W ρ hC kc kf ks ki kd => ?_⟩
              have d0 : v 0 = .agg #[.int .i64 fo.proto, .int .i64 fo.src, .int .i64 fo.sport, .int .i64 fo.dst, .int .i64 fo.dport, .int .i64 fo.kind, .int .i64 fb.proto, .int .i64 fb.src, .int .i64 fb.sport, .int .i64 fb.dst, .int .i64 fb.dport, .int .i64 fb.kind, .int .i64 s, .bool true, .bool false, .int .i64 tl, .int .i64 (fc + 1)] := by first | exact kd _ (mem0 rfl) rfl | exact kd _ (mem1 rfl) rfl | exact kd _ (mem2 rfl) rfl | exact kd _ (mem3 rfl) rfl | exact kd _ (mem4 rfl) rfl | exact kd _ (mem5 rfl) rfl | exact kd _ (Array.mem_of_getElem? (i := 6) rfl) rfl | exact kd _ (Array.mem_of_getElem? (i := 7) rfl) rfl
              have t73 : ρ (.tmp 73) = .agg #[.int .i64 fo.proto, .int .i64 fo.src, .int .i64 fo.sport, .int .i64 fo.dst, .int .i64 fo.dport, .int .i64 fo.kind, .int .i64 fb.proto, .int .i64 fb.src, .int .i64 fb.sport, .int .i64 fb.dst, .int .i64 fb.dport, .int .i64 fb.kind, .int .i64 s, .bool true, .bool false, .int .i64 tl, .int .i64 (fc + 1)] := (ks 0 73 (by decide) rfl).trans d0
              simp [execOp, go_sem, kc, t73]
              exact ⟨hC, Below.refl _ _, rfl⟩
          intro vY_18 WY_18 hBY_18 hgY_18 hall
          simp [upto, Act.put]
          clear hall
          have hEY_18 := hidS (hL5.out.trans (hBY_18 w.heap.size (by omega)))
          have hcY_18 := loadVar_blk (P := Try.prog) hgY_18 Try.underlying36 rfl (by kernel_rfl)
          clear hBY_18 hgY_18 hL5 hGF5 hGP5 hGR5
          go_wp2_with fail
          exact bodyPost_ret (v := .agg #[.int .i64 fo.proto, .int .i64 fo.src, .int .i64 fo.sport, .int .i64 fo.dst, .int .i64 fo.dport, .int .i64 fo.kind, .int .i64 fb.proto, .int .i64 fb.src, .int .i64 fb.sport, .int .i64 fb.dst, .int .i64 fb.dport, .int .i64 fb.kind, .int .i64 s, .bool true, .bool false, .int .i64 tl, .int .i64 (fc + 1), .int .i64 0]) (results_cell Try.results36 rfl hcY_18) rfl ⟨by rw [EX.out, EC.out] ; first | done | rfl, hEY_18.out⟩
        · have EX := hidS (flowX_yes now ⟨fo, fb, s, true, true, ft, fc⟩ EC.out (HLED.out.trans (by simp [h3])))
          have cP0 := blk_cell hGP2.out 0
          have cP1 := blk_cell hGP2.out 1
          have cP2 := blk_cell hGP2.out 2
          have cP3 := blk_cell hGP2.out 3
          have cP4 := blk_cell hGP2.out 4
          have cP5 := blk_cell hGP2.out 5
          have cP6 := blk_cell hGP2.out 6
          have cP7 := blk_cell hGP2.out 7
          have cP8 := blk_cell hGP2.out 8
          have cP9 := blk_cell hGP2.out 9
          simp at cP0 cP1 cP2 cP3 cP4 cP5 cP6 cP7 cP8 cP9
          have cF0 := blk_cell hGF2.out 0
          have cF1 := blk_cell hGF2.out 1
          have cF2 := blk_cell hGF2.out 2
          have cF3 := blk_cell hGF2.out 3
          have cF4 := blk_cell hGF2.out 4
          have cF5 := blk_cell hGF2.out 5
          have cF6 := blk_cell hGF2.out 6
          have cF7 := blk_cell hGF2.out 7
          have cF8 := blk_cell hGF2.out 8
          have cF9 := blk_cell hGF2.out 9
          have cF10 := blk_cell hGF2.out 10
          have cF11 := blk_cell hGF2.out 11
          have cF12 := blk_cell hGF2.out 12
          have cF13 := blk_cell hGF2.out 13
          have cF14 := blk_cell hGF2.out 14
          have cF15 := blk_cell hGF2.out 15
          have cF16 := blk_cell hGF2.out 16
          simp at cF0 cF1 cF2 cF3 cF4 cF5 cF6 cF7 cF8 cF9 cF10 cF11 cF12 cF13 cF14 cF15 cF16
          have kF := blk_cell hGF2.out
          have fF := blk_free hGF2.out
          go_upto_region 10 with fail
          clear cP0 cP1 cP2 cP3 cP4 cP5 cP6 cP7 cP8 cP9 cF0 cF1 cF2 cF3 cF4 cF5 cF6 cF7 cF8 cF9 cF10 cF11 cF12 cF13 cF14 cF15 cF16 kF fF
          have hGF3 : Hid (((w2.setCell ⟨w.heap.size, 13, none⟩ (.bool true)).setCell ⟨w.heap.size, 14, none⟩ (.bool true)).heap[w.heap.size]? = some (.cells #[.int .i64 fo.proto, .int .i64 fo.src, .int .i64 fo.sport, .int .i64 fo.dst, .int .i64 fo.dport, .int .i64 fo.kind, .int .i64 fb.proto, .int .i64 fb.src, .int .i64 fb.sport, .int .i64 fb.dst, .int .i64 fb.dport, .int .i64 fb.kind, .int .i64 s, .bool true, .bool true, .int .i64 ft, .int .i64 fc] 29)) := by
            have := (blk_set (blk_set hGF2.out 13 (.bool true)) 14 (.bool true))
            exact this
          have hGP3 := hidS (blk_other (B := w.heap.size) (blk_other (B := w.heap.size) hGP2.out (by omega) 13 (.bool true)) (by omega) 14 (.bool true))
          have hGR3 := hidS (blk_other (B := w.heap.size) (blk_other (B := w.heap.size) hGR2.out (by omega) 13 (.bool true)) (by omega) 14 (.bool true))
          have hL3 := hidS (below_at (k := 14) (b := w.heap.size) (v := .bool true) (below_at (k := 13) (b := w.heap.size) (v := .bool true) hL2.out (by omega)) (by omega))
          clear hL2 hGF2 hGP2 hGR2
          generalize ((w2.setCell ⟨w.heap.size, 13, none⟩ (.bool true)).setCell ⟨w.heap.size, 14, none⟩ (.bool true)) = w3 at hGF3 hGP3 hGR3 hL3 ⊢
          go_wp2_with (first | refine wpList_load_blk 29 (.tmp 4) rfl rfl rfl hGF3.out Try.underlying29 rfl (by kernel_rfl) ?_)
          refine (HU.out ⟨fo, fb, s, true, true, ft, fc⟩ _).mono ?_
          rintro _ w4 ⟨rfl, hb4⟩
          have hGF4 := hidS (blk_later hGF3.out hb4)
          have hGP4 := hidS (blk_later hGP3.out hb4)
          have hGR4 := hidS (blk_later hGR3.out hb4)
          have hL4 := hidS (hL3.out.trans (hb4.mono hL3.out.size))
          clear hb4 hL3 hGF3 hGP3 hGR3
          generalize hTL : tillF ⟨fo, fb, s, true, true, ft, fc⟩ now = tl at *
          have cF0 := blk_cell hGF4.out 0
          have cF1 := blk_cell hGF4.out 1
          have cF2 := blk_cell hGF4.out 2
          have cF3 := blk_cell hGF4.out 3
          have cF4 := blk_cell hGF4.out 4
          have cF5 := blk_cell hGF4.out 5
          have cF6 := blk_cell hGF4.out 6
          have cF7 := blk_cell hGF4.out 7
          have cF8 := blk_cell hGF4.out 8
          have cF9 := blk_cell hGF4.out 9
          have cF10 := blk_cell hGF4.out 10
          have cF11 := blk_cell hGF4.out 11
          have cF12 := blk_cell hGF4.out 12
          have cF13 := blk_cell hGF4.out 13
          have cF14 := blk_cell hGF4.out 14
          have cF15 := blk_cell hGF4.out 15
          have cF16 := blk_cell hGF4.out 16
          simp at cF0 cF1 cF2 cF3 cF4 cF5 cF6 cF7 cF8 cF9 cF10 cF11 cF12 cF13 cF14 cF15 cF16
          have kF := blk_cell hGF4.out
          have fF := blk_free hGF4.out
          go_upto_region 12 with fail
          clear cF0 cF1 cF2 cF3 cF4 cF5 cF6 cF7 cF8 cF9 cF10 cF11 cF12 cF13 cF14 cF15 cF16 kF fF
          have hGF5 : Hid (((w4.setCell ⟨w.heap.size, 15, none⟩ (.int .i64 tl)).setCell ⟨w.heap.size, 16, none⟩ (.int .i64 (fc + 1))).heap[w.heap.size]? = some (.cells #[.int .i64 fo.proto, .int .i64 fo.src, .int .i64 fo.sport, .int .i64 fo.dst, .int .i64 fo.dport, .int .i64 fo.kind, .int .i64 fb.proto, .int .i64 fb.src, .int .i64 fb.sport, .int .i64 fb.dst, .int .i64 fb.dport, .int .i64 fb.kind, .int .i64 s, .bool true, .bool true, .int .i64 tl, .int .i64 (fc + 1)] 29)) := by
            have := (blk_set (blk_set hGF4.out 15 (.int .i64 tl)) 16 (.int .i64 (fc + 1)))
            exact this
          have hGP5 := hidS (blk_other (B := w.heap.size) (blk_other (B := w.heap.size) hGP4.out (by omega) 15 (.int .i64 tl)) (by omega) 16 (.int .i64 (fc + 1)))
          have hGR5 := hidS (blk_other (B := w.heap.size) (blk_other (B := w.heap.size) hGR4.out (by omega) 15 (.int .i64 tl)) (by omega) 16 (.int .i64 (fc + 1)))
          have hL5 := hidS (below_at (k := 16) (b := w.heap.size) (v := .int .i64 (fc + 1)) (below_at (k := 15) (b := w.heap.size) (v := .int .i64 tl) hL4.out (by omega)) (by omega))
          clear hL4 hGF4 hGP4 hGR4
          generalize ((w4.setCell ⟨w.heap.size, 15, none⟩ (.int .i64 tl)).setCell ⟨w.heap.size, 16, none⟩ (.int .i64 (fc + 1))) = w5 at hGF5 hGP5 hGR5 hL5 ⊢
          refine plain_into 2 _ [.is (.agg #[.int .i64 fo.proto, .int .i64 fo.src, .int .i64 fo.sport, .int .i64 fo.dst, .int .i64 fo.dport, .int .i64 fo.kind, .int .i64 fb.proto, .int .i64 fb.src, .int .i64 fb.sport, .int .i64 fb.dst, .int .i64 fb.dport, .int .i64 fb.kind, .int .i64 s, .bool true, .bool true, .int .i64 tl, .int .i64 (fc + 1)]), .is (.agg #[.int .i64 fo.proto, .int .i64 fo.src, .int .i64 fo.sport, .int .i64 fo.dst, .int .i64 fo.dport, .int .i64 fo.kind, .int .i64 fb.proto, .int .i64 fb.src, .int .i64 fb.sport, .int .i64 fb.dst, .int .i64 fb.dport, .int .i64 fb.kind, .int .i64 s, .bool true, .bool true, .int .i64 tl, .int .i64 (fc + 1), .int .i64 0])] 1 8 74 36 36 (w.heap.size + 2) #[.int .i64 0, .int .i64 0, .int .i64 0, .int .i64 0, .int .i64 0, .int .i64 0, .int .i64 0, .int .i64 0, .int .i64 0, .int .i64 0, .int .i64 0, .int .i64 0, .int .i64 0, .bool false, .bool false, .int .i64 0, .int .i64 0, .int .i64 0] #[.int .i64 fo.proto, .int .i64 fo.src, .int .i64 fo.sport, .int .i64 fo.dst, .int .i64 fo.dport, .int .i64 fo.kind, .int .i64 fb.proto, .int .i64 fb.src, .int .i64 fb.sport, .int .i64 fb.dst, .int .i64 fb.dport, .int .i64 fb.kind, .int .i64 s, .bool true, .bool true, .int .i64 tl, .int .i64 (fc + 1), .int .i64 0] rfl rfl rfl (by kernel_rfl) (by kernel_rfl) (by kernel_rfl) rfl rfl (by decide) (by kernel_rfl) (by kernel_rfl) (by decide) hGR5.out (by kernel_rfl) (by kernel_rfl) (by first | kernel_rfl | simp [Value.oneCell']) (by kernel_rfl) ?stepsY_19 ?finY_19
          case stepsY_19 =>
            refine ⟨?_, ?_, trivial⟩
            · refine ⟨rfl, fun v W ρ hC kc kf ks ki kd => ?_⟩
              have t4 : ρ (.tmp 4) = .pointer (some ⟨w.heap.size, 0, none⟩) := ki 4 (by decide)
              simp only [execOp, t4, Sem.run_bind, loadAt_part (o := 0) [.int .i64 fo.proto, .int .i64 fo.src, .int .i64 fo.sport, .int .i64 fo.dst, .int .i64 fo.dport, .int .i64 fo.kind, .int .i64 fb.proto, .int .i64 fb.src, .int .i64 fb.sport, .int .i64 fb.dst, .int .i64 fb.dport, .int .i64 fb.kind, .int .i64 s, .bool true, .bool true, .int .i64 tl, .int .i64 (fc + 1)] (blk_later hGF5.out hC) rfl Try.underlying29 rfl (by kernel_rfl), Result.andThen_ok, Sem.run_pure]
              exact ⟨hC, Below.refl _ _, rfl⟩
            · refine ⟨rfl, fun v W ρ hC kc kf ks ki kd => ?_⟩
              have d0 : v 0 = .agg #[.int .i64 fo.proto, .int .i64 fo.src, .int .i64 fo.sport, .int .i64 fo.dst, .int .i64 fo.dport, .int .i64 fo.kind, .int .i64 fb.proto, .int .i64 fb.src, .int .i64 fb.sport, .int .i64 fb.dst, .int .i64 fb.dport, .int .i64 fb.kind, .int .i64 s, .bool true, .bool true, .int .i64 tl, .int .i64 (fc + 1)] := by first | exact kd _ (mem0 rfl) rfl | exact kd _ (mem1 rfl) rfl | exact kd _ (mem2 rfl) rfl | exact kd _ (mem3 rfl) rfl | exact kd _ (mem4 rfl) rfl | exact kd _ (mem5 rfl) rfl | exact kd _ (Array.mem_of_getElem? (i := 6) rfl) rfl | exact kd _ (Array.mem_of_getElem? (i := 7) rfl) rfl
              have t73 : ρ (.tmp 73) = .agg #[.int .i64 fo.proto, .int .i64 fo.src, .int .i64 fo.sport, .int .i64 fo.dst, .int .i64 fo.dport, .int .i64 fo.kind, .int .i64 fb.proto, .int .i64 fb.src, .int .i64 fb.sport, .int .i64 fb.dst, .int .i64 fb.dport, .int .i64 fb.kind, .int .i64 s, .bool true, .bool true, .int .i64 tl, .int .i64 (fc + 1)] := (ks 0 73 (by decide) rfl).trans d0
              simp [execOp, go_sem, kc, t73]
              exact ⟨hC, Below.refl _ _, rfl⟩
          intro vY_19 WY_19 hBY_19 hgY_19 hall
          simp [upto, Act.put]
          clear hall
          have hEY_19 := hidS (hL5.out.trans (hBY_19 w.heap.size (by omega)))
          have hcY_19 := loadVar_blk (P := Try.prog) hgY_19 Try.underlying36 rfl (by kernel_rfl)
          clear hBY_19 hgY_19 hL5 hGF5 hGP5 hGR5
          go_wp2_with fail
          exact bodyPost_ret (v := .agg #[.int .i64 fo.proto, .int .i64 fo.src, .int .i64 fo.sport, .int .i64 fo.dst, .int .i64 fo.dport, .int .i64 fo.kind, .int .i64 fb.proto, .int .i64 fb.src, .int .i64 fb.sport, .int .i64 fb.dst, .int .i64 fb.dport, .int .i64 fb.kind, .int .i64 s, .bool true, .bool true, .int .i64 tl, .int .i64 (fc + 1), .int .i64 0]) (results_cell Try.results36 rfl hcY_19) rfl ⟨by rw [EX.out, EC.out] ; first | done | rfl, hEY_19.out⟩
    · have EX := hidS (flowX_yes now ⟨fo, fb, s, b, true, ft, fc⟩ EC.out (HLED.out.trans (by simp)))
      have cP0 := blk_cell hGP2.out 0
      have cP1 := blk_cell hGP2.out 1
      have cP2 := blk_cell hGP2.out 2
      have cP3 := blk_cell hGP2.out 3
      have cP4 := blk_cell hGP2.out 4
      have cP5 := blk_cell hGP2.out 5
      have cP6 := blk_cell hGP2.out 6
      have cP7 := blk_cell hGP2.out 7
      have cP8 := blk_cell hGP2.out 8
      have cP9 := blk_cell hGP2.out 9
      simp at cP0 cP1 cP2 cP3 cP4 cP5 cP6 cP7 cP8 cP9
      have cF0 := blk_cell hGF2.out 0
      have cF1 := blk_cell hGF2.out 1
      have cF2 := blk_cell hGF2.out 2
      have cF3 := blk_cell hGF2.out 3
      have cF4 := blk_cell hGF2.out 4
      have cF5 := blk_cell hGF2.out 5
      have cF6 := blk_cell hGF2.out 6
      have cF7 := blk_cell hGF2.out 7
      have cF8 := blk_cell hGF2.out 8
      have cF9 := blk_cell hGF2.out 9
      have cF10 := blk_cell hGF2.out 10
      have cF11 := blk_cell hGF2.out 11
      have cF12 := blk_cell hGF2.out 12
      have cF13 := blk_cell hGF2.out 13
      have cF14 := blk_cell hGF2.out 14
      have cF15 := blk_cell hGF2.out 15
      have cF16 := blk_cell hGF2.out 16
      simp at cF0 cF1 cF2 cF3 cF4 cF5 cF6 cF7 cF8 cF9 cF10 cF11 cF12 cF13 cF14 cF15 cF16
      have kF := blk_cell hGF2.out
      have fF := blk_free hGF2.out
      go_upto_region 10 with fail
      clear cP0 cP1 cP2 cP3 cP4 cP5 cP6 cP7 cP8 cP9 cF0 cF1 cF2 cF3 cF4 cF5 cF6 cF7 cF8 cF9 cF10 cF11 cF12 cF13 cF14 cF15 cF16 kF fF
      have hGF3 : Hid (((w2.setCell ⟨w.heap.size, 13, none⟩ (.bool b)).setCell ⟨w.heap.size, 14, none⟩ (.bool true)).heap[w.heap.size]? = some (.cells #[.int .i64 fo.proto, .int .i64 fo.src, .int .i64 fo.sport, .int .i64 fo.dst, .int .i64 fo.dport, .int .i64 fo.kind, .int .i64 fb.proto, .int .i64 fb.src, .int .i64 fb.sport, .int .i64 fb.dst, .int .i64 fb.dport, .int .i64 fb.kind, .int .i64 s, .bool b, .bool true, .int .i64 ft, .int .i64 fc] 29)) := by
        have := (blk_set (blk_set hGF2.out 13 (.bool b)) 14 (.bool true))
        exact this
      have hGP3 := hidS (blk_other (B := w.heap.size) (blk_other (B := w.heap.size) hGP2.out (by omega) 13 (.bool b)) (by omega) 14 (.bool true))
      have hGR3 := hidS (blk_other (B := w.heap.size) (blk_other (B := w.heap.size) hGR2.out (by omega) 13 (.bool b)) (by omega) 14 (.bool true))
      have hL3 := hidS (below_at (k := 14) (b := w.heap.size) (v := .bool true) (below_at (k := 13) (b := w.heap.size) (v := .bool b) hL2.out (by omega)) (by omega))
      clear hL2 hGF2 hGP2 hGR2
      generalize ((w2.setCell ⟨w.heap.size, 13, none⟩ (.bool b)).setCell ⟨w.heap.size, 14, none⟩ (.bool true)) = w3 at hGF3 hGP3 hGR3 hL3 ⊢
      go_wp2_with (first | refine wpList_load_blk 29 (.tmp 4) rfl rfl rfl hGF3.out Try.underlying29 rfl (by kernel_rfl) ?_)
      refine (HU.out ⟨fo, fb, s, b, true, ft, fc⟩ _).mono ?_
      rintro _ w4 ⟨rfl, hb4⟩
      have hGF4 := hidS (blk_later hGF3.out hb4)
      have hGP4 := hidS (blk_later hGP3.out hb4)
      have hGR4 := hidS (blk_later hGR3.out hb4)
      have hL4 := hidS (hL3.out.trans (hb4.mono hL3.out.size))
      clear hb4 hL3 hGF3 hGP3 hGR3
      generalize hTL : tillF ⟨fo, fb, s, b, true, ft, fc⟩ now = tl at *
      have cF0 := blk_cell hGF4.out 0
      have cF1 := blk_cell hGF4.out 1
      have cF2 := blk_cell hGF4.out 2
      have cF3 := blk_cell hGF4.out 3
      have cF4 := blk_cell hGF4.out 4
      have cF5 := blk_cell hGF4.out 5
      have cF6 := blk_cell hGF4.out 6
      have cF7 := blk_cell hGF4.out 7
      have cF8 := blk_cell hGF4.out 8
      have cF9 := blk_cell hGF4.out 9
      have cF10 := blk_cell hGF4.out 10
      have cF11 := blk_cell hGF4.out 11
      have cF12 := blk_cell hGF4.out 12
      have cF13 := blk_cell hGF4.out 13
      have cF14 := blk_cell hGF4.out 14
      have cF15 := blk_cell hGF4.out 15
      have cF16 := blk_cell hGF4.out 16
      simp at cF0 cF1 cF2 cF3 cF4 cF5 cF6 cF7 cF8 cF9 cF10 cF11 cF12 cF13 cF14 cF15 cF16
      have kF := blk_cell hGF4.out
      have fF := blk_free hGF4.out
      go_upto_region 12 with fail
      clear cF0 cF1 cF2 cF3 cF4 cF5 cF6 cF7 cF8 cF9 cF10 cF11 cF12 cF13 cF14 cF15 cF16 kF fF
      have hGF5 : Hid (((w4.setCell ⟨w.heap.size, 15, none⟩ (.int .i64 tl)).setCell ⟨w.heap.size, 16, none⟩ (.int .i64 (fc + 1))).heap[w.heap.size]? = some (.cells #[.int .i64 fo.proto, .int .i64 fo.src, .int .i64 fo.sport, .int .i64 fo.dst, .int .i64 fo.dport, .int .i64 fo.kind, .int .i64 fb.proto, .int .i64 fb.src, .int .i64 fb.sport, .int .i64 fb.dst, .int .i64 fb.dport, .int .i64 fb.kind, .int .i64 s, .bool b, .bool true, .int .i64 tl, .int .i64 (fc + 1)] 29)) := by
        have := (blk_set (blk_set hGF4.out 15 (.int .i64 tl)) 16 (.int .i64 (fc + 1)))
        exact this
      have hGP5 := hidS (blk_other (B := w.heap.size) (blk_other (B := w.heap.size) hGP4.out (by omega) 15 (.int .i64 tl)) (by omega) 16 (.int .i64 (fc + 1)))
      have hGR5 := hidS (blk_other (B := w.heap.size) (blk_other (B := w.heap.size) hGR4.out (by omega) 15 (.int .i64 tl)) (by omega) 16 (.int .i64 (fc + 1)))
      have hL5 := hidS (below_at (k := 16) (b := w.heap.size) (v := .int .i64 (fc + 1)) (below_at (k := 15) (b := w.heap.size) (v := .int .i64 tl) hL4.out (by omega)) (by omega))
      clear hL4 hGF4 hGP4 hGR4
      generalize ((w4.setCell ⟨w.heap.size, 15, none⟩ (.int .i64 tl)).setCell ⟨w.heap.size, 16, none⟩ (.int .i64 (fc + 1))) = w5 at hGF5 hGP5 hGR5 hL5 ⊢
      refine plain_into 2 _ [.is (.agg #[.int .i64 fo.proto, .int .i64 fo.src, .int .i64 fo.sport, .int .i64 fo.dst, .int .i64 fo.dport, .int .i64 fo.kind, .int .i64 fb.proto, .int .i64 fb.src, .int .i64 fb.sport, .int .i64 fb.dst, .int .i64 fb.dport, .int .i64 fb.kind, .int .i64 s, .bool b, .bool true, .int .i64 tl, .int .i64 (fc + 1)]), .is (.agg #[.int .i64 fo.proto, .int .i64 fo.src, .int .i64 fo.sport, .int .i64 fo.dst, .int .i64 fo.dport, .int .i64 fo.kind, .int .i64 fb.proto, .int .i64 fb.src, .int .i64 fb.sport, .int .i64 fb.dst, .int .i64 fb.dport, .int .i64 fb.kind, .int .i64 s, .bool b, .bool true, .int .i64 tl, .int .i64 (fc + 1), .int .i64 0])] 1 8 74 36 36 (w.heap.size + 2) #[.int .i64 0, .int .i64 0, .int .i64 0, .int .i64 0, .int .i64 0, .int .i64 0, .int .i64 0, .int .i64 0, .int .i64 0, .int .i64 0, .int .i64 0, .int .i64 0, .int .i64 0, .bool false, .bool false, .int .i64 0, .int .i64 0, .int .i64 0] #[.int .i64 fo.proto, .int .i64 fo.src, .int .i64 fo.sport, .int .i64 fo.dst, .int .i64 fo.dport, .int .i64 fo.kind, .int .i64 fb.proto, .int .i64 fb.src, .int .i64 fb.sport, .int .i64 fb.dst, .int .i64 fb.dport, .int .i64 fb.kind, .int .i64 s, .bool b, .bool true, .int .i64 tl, .int .i64 (fc + 1), .int .i64 0] rfl rfl rfl (by kernel_rfl) (by kernel_rfl) (by kernel_rfl) rfl rfl (by decide) (by kernel_rfl) (by kernel_rfl) (by decide) hGR5.out (by kernel_rfl) (by kernel_rfl) (by first | kernel_rfl | simp [Value.oneCell']) (by kernel_rfl) ?stepsY_20 ?finY_20
      case stepsY_20 =>
        refine ⟨?_, ?_, trivial⟩
        · refine ⟨rfl, fun v W ρ hC kc kf ks ki kd => ?_⟩
          have t4 : ρ (.tmp 4) = .pointer (some ⟨w.heap.size, 0, none⟩) := ki 4 (by decide)
          simp only [execOp, t4, Sem.run_bind, loadAt_part (o := 0) [.int .i64 fo.proto, .int .i64 fo.src, .int .i64 fo.sport, .int .i64 fo.dst, .int .i64 fo.dport, .int .i64 fo.kind, .int .i64 fb.proto, .int .i64 fb.src, .int .i64 fb.sport, .int .i64 fb.dst, .int .i64 fb.dport, .int .i64 fb.kind, .int .i64 s, .bool b, .bool true, .int .i64 tl, .int .i64 (fc + 1)] (blk_later hGF5.out hC) rfl Try.underlying29 rfl (by kernel_rfl), Result.andThen_ok, Sem.run_pure]
          exact ⟨hC, Below.refl _ _, rfl⟩
        · refine ⟨rfl, fun v W ρ hC kc kf ks ki kd => ?_⟩
          have d0 : v 0 = .agg #[.int .i64 fo.proto, .int .i64 fo.src, .int .i64 fo.sport, .int .i64 fo.dst, .int .i64 fo.dport, .int .i64 fo.kind, .int .i64 fb.proto, .int .i64 fb.src, .int .i64 fb.sport, .int .i64 fb.dst, .int .i64 fb.dport, .int .i64 fb.kind, .int .i64 s, .bool b, .bool true, .int .i64 tl, .int .i64 (fc + 1)] := by first | exact kd _ (mem0 rfl) rfl | exact kd _ (mem1 rfl) rfl | exact kd _ (mem2 rfl) rfl | exact kd _ (mem3 rfl) rfl | exact kd _ (mem4 rfl) rfl | exact kd _ (mem5 rfl) rfl | exact kd _ (Array.mem_of_getElem? (i := 6) rfl) rfl | exact kd _ (Array.mem_of_getElem? (i := 7) rfl) rfl
          have t73 : ρ (.tmp 73) = .agg #[.int .i64 fo.proto, .int .i64 fo.src, .int .i64 fo.sport, .int .i64 fo.dst, .int .i64 fo.dport, .int .i64 fo.kind, .int .i64 fb.proto, .int .i64 fb.src, .int .i64 fb.sport, .int .i64 fb.dst, .int .i64 fb.dport, .int .i64 fb.kind, .int .i64 s, .bool b, .bool true, .int .i64 tl, .int .i64 (fc + 1)] := (ks 0 73 (by decide) rfl).trans d0
          simp [execOp, go_sem, kc, t73]
          exact ⟨hC, Below.refl _ _, rfl⟩
      intro vY_20 WY_20 hBY_20 hgY_20 hall
      simp [upto, Act.put]
      clear hall
      have hEY_20 := hidS (hL5.out.trans (hBY_20 w.heap.size (by omega)))
      have hcY_20 := loadVar_blk (P := Try.prog) hgY_20 Try.underlying36 rfl (by kernel_rfl)
      clear hBY_20 hgY_20 hL5 hGF5 hGP5 hGR5
      go_wp2_with fail
      exact bodyPost_ret (v := .agg #[.int .i64 fo.proto, .int .i64 fo.src, .int .i64 fo.sport, .int .i64 fo.dst, .int .i64 fo.dport, .int .i64 fo.kind, .int .i64 fb.proto, .int .i64 fb.src, .int .i64 fb.sport, .int .i64 fb.dst, .int .i64 fb.dport, .int .i64 fb.kind, .int .i64 s, .bool b, .bool true, .int .i64 tl, .int .i64 (fc + 1), .int .i64 0]) (results_cell Try.results36 rfl hcY_20) rfl ⟨by rw [EX.out, EC.out] ; first | done | rfl, hEY_20.out⟩
  · cases fu
    · cases h3 : (s == 3)
      · have EX := hidS (flowX_yes now ⟨fo, fb, s, true, false, ft, fc⟩ EC.out (HLED.out.trans (by simp [h3])))
        have cP0 := blk_cell hGP2.out 0
        have cP1 := blk_cell hGP2.out 1
        have cP2 := blk_cell hGP2.out 2
        have cP3 := blk_cell hGP2.out 3
        have cP4 := blk_cell hGP2.out 4
        have cP5 := blk_cell hGP2.out 5
        have cP6 := blk_cell hGP2.out 6
        have cP7 := blk_cell hGP2.out 7
        have cP8 := blk_cell hGP2.out 8
        have cP9 := blk_cell hGP2.out 9
        simp at cP0 cP1 cP2 cP3 cP4 cP5 cP6 cP7 cP8 cP9
        have cF0 := blk_cell hGF2.out 0
        have cF1 := blk_cell hGF2.out 1
        have cF2 := blk_cell hGF2.out 2
        have cF3 := blk_cell hGF2.out 3
        have cF4 := blk_cell hGF2.out 4
        have cF5 := blk_cell hGF2.out 5
        have cF6 := blk_cell hGF2.out 6
        have cF7 := blk_cell hGF2.out 7
        have cF8 := blk_cell hGF2.out 8
        have cF9 := blk_cell hGF2.out 9
        have cF10 := blk_cell hGF2.out 10
        have cF11 := blk_cell hGF2.out 11
        have cF12 := blk_cell hGF2.out 12
        have cF13 := blk_cell hGF2.out 13
        have cF14 := blk_cell hGF2.out 14
        have cF15 := blk_cell hGF2.out 15
        have cF16 := blk_cell hGF2.out 16
        simp at cF0 cF1 cF2 cF3 cF4 cF5 cF6 cF7 cF8 cF9 cF10 cF11 cF12 cF13 cF14 cF15 cF16
        have kF := blk_cell hGF2.out
        have fF := blk_free hGF2.out
        go_upto_region 10 with fail
        clear cP0 cP1 cP2 cP3 cP4 cP5 cP6 cP7 cP8 cP9 cF0 cF1 cF2 cF3 cF4 cF5 cF6 cF7 cF8 cF9 cF10 cF11 cF12 cF13 cF14 cF15 cF16 kF fF
        have hGF3 : Hid (((w2.setCell ⟨w.heap.size, 13, none⟩ (.bool true)).setCell ⟨w.heap.size, 14, none⟩ (.bool false)).heap[w.heap.size]? = some (.cells #[.int .i64 fo.proto, .int .i64 fo.src, .int .i64 fo.sport, .int .i64 fo.dst, .int .i64 fo.dport, .int .i64 fo.kind, .int .i64 fb.proto, .int .i64 fb.src, .int .i64 fb.sport, .int .i64 fb.dst, .int .i64 fb.dport, .int .i64 fb.kind, .int .i64 s, .bool true, .bool false, .int .i64 ft, .int .i64 fc] 29)) := by
          have := (blk_set (blk_set hGF2.out 13 (.bool true)) 14 (.bool false))
          exact this
        have hGP3 := hidS (blk_other (B := w.heap.size) (blk_other (B := w.heap.size) hGP2.out (by omega) 13 (.bool true)) (by omega) 14 (.bool false))
        have hGR3 := hidS (blk_other (B := w.heap.size) (blk_other (B := w.heap.size) hGR2.out (by omega) 13 (.bool true)) (by omega) 14 (.bool false))
        have hL3 := hidS (below_at (k := 14) (b := w.heap.size) (v := .bool false) (below_at (k := 13) (b := w.heap.size) (v := .bool true) hL2.out (by omega)) (by omega))
        clear hL2 hGF2 hGP2 hGR2
        generalize ((w2.setCell ⟨w.heap.size, 13, none⟩ (.bool true)).setCell ⟨w.heap.size, 14, none⟩ (.bool false)) = w3 at hGF3 hGP3 hGR3 hL3 ⊢
        go_wp2_with (first | refine wpList_load_blk 29 (.tmp 4) rfl rfl rfl hGF3.out Try.underlying29 rfl (by kernel_rfl) ?_)
        refine (HU.out ⟨fo, fb, s, true, false, ft, fc⟩ _).mono ?_
        rintro _ w4 ⟨rfl, hb4⟩
        have hGF4 := hidS (blk_later hGF3.out hb4)
        have hGP4 := hidS (blk_later hGP3.out hb4)
        have hGR4 := hidS (blk_later hGR3.out hb4)
        have hL4 := hidS (hL3.out.trans (hb4.mono hL3.out.size))
        clear hb4 hL3 hGF3 hGP3 hGR3
        generalize hTL : tillF ⟨fo, fb, s, true, false, ft, fc⟩ now = tl at *
        have cF0 := blk_cell hGF4.out 0
        have cF1 := blk_cell hGF4.out 1
        have cF2 := blk_cell hGF4.out 2
        have cF3 := blk_cell hGF4.out 3
        have cF4 := blk_cell hGF4.out 4
        have cF5 := blk_cell hGF4.out 5
        have cF6 := blk_cell hGF4.out 6
        have cF7 := blk_cell hGF4.out 7
        have cF8 := blk_cell hGF4.out 8
        have cF9 := blk_cell hGF4.out 9
        have cF10 := blk_cell hGF4.out 10
        have cF11 := blk_cell hGF4.out 11
        have cF12 := blk_cell hGF4.out 12
        have cF13 := blk_cell hGF4.out 13
        have cF14 := blk_cell hGF4.out 14
        have cF15 := blk_cell hGF4.out 15
        have cF16 := blk_cell hGF4.out 16
        simp at cF0 cF1 cF2 cF3 cF4 cF5 cF6 cF7 cF8 cF9 cF10 cF11 cF12 cF13 cF14 cF15 cF16
        have kF := blk_cell hGF4.out
        have fF := blk_free hGF4.out
        go_upto_region 12 with fail
        clear cF0 cF1 cF2 cF3 cF4 cF5 cF6 cF7 cF8 cF9 cF10 cF11 cF12 cF13 cF14 cF15 cF16 kF fF
        have hGF5 : Hid (((w4.setCell ⟨w.heap.size, 15, none⟩ (.int .i64 tl)).setCell ⟨w.heap.size, 16, none⟩ (.int .i64 (fc + 1))).heap[w.heap.size]? = some (.cells #[.int .i64 fo.proto, .int .i64 fo.src, .int .i64 fo.sport, .int .i64 fo.dst, .int .i64 fo.dport, .int .i64 fo.kind, .int .i64 fb.proto, .int .i64 fb.src, .int .i64 fb.sport, .int .i64 fb.dst, .int .i64 fb.dport, .int .i64 fb.kind, .int .i64 s, .bool true, .bool false, .int .i64 tl, .int .i64 (fc + 1)] 29)) := by
          have := (blk_set (blk_set hGF4.out 15 (.int .i64 tl)) 16 (.int .i64 (fc + 1)))
          exact this
        have hGP5 := hidS (blk_other (B := w.heap.size) (blk_other (B := w.heap.size) hGP4.out (by omega) 15 (.int .i64 tl)) (by omega) 16 (.int .i64 (fc + 1)))
        have hGR5 := hidS (blk_other (B := w.heap.size) (blk_other (B := w.heap.size) hGR4.out (by omega) 15 (.int .i64 tl)) (by omega) 16 (.int .i64 (fc + 1)))
        have hL5 := hidS (below_at (k := 16) (b := w.heap.size) (v := .int .i64 (fc + 1)) (below_at (k := 15) (b := w.heap.size) (v := .int .i64 tl) hL4.out (by omega)) (by omega))
        clear hL4 hGF4 hGP4 hGR4
        generalize ((w4.setCell ⟨w.heap.size, 15, none⟩ (.int .i64 tl)).setCell ⟨w.heap.size, 16, none⟩ (.int .i64 (fc + 1))) = w5 at hGF5 hGP5 hGR5 hL5 ⊢
        refine plain_into 2 _ [.is (.agg #[.int .i64 fo.proto, .int .i64 fo.src, .int .i64 fo.sport, .int .i64 fo.dst, .int .i64 fo.dport, .int .i64 fo.kind, .int .i64 fb.proto, .int .i64 fb.src, .int .i64 fb.sport, .int .i64 fb.dst, .int .i64 fb.dport, .int .i64 fb.kind, .int .i64 s, .bool true, .bool false, .int .i64 tl, .int .i64 (fc + 1)]), .is (.agg #[.int .i64 fo.proto, .int .i64 fo.src, .int .i64 fo.sport, .int .i64 fo.dst, .int .i64 fo.dport, .int .i64 fo.kind, .int .i64 fb.proto, .int .i64 fb.src, .int .i64 fb.sport, .int .i64 fb.dst, .int .i64 fb.dport, .int .i64 fb.kind, .int .i64 s, .bool true, .bool false, .int .i64 tl, .int .i64 (fc + 1), .int .i64 0])] 1 8 74 36 36 (w.heap.size + 2) #[.int .i64 0, .int .i64 0, .int .i64 0, .int .i64 0, .int .i64 0, .int .i64 0, .int .i64 0, .int .i64 0, .int .i64 0, .int .i64 0, .int .i64 0, .int .i64 0, .int .i64 0, .bool false, .bool false, .int .i64 0, .int .i64 0, .int .i64 0] #[.int .i64 fo.proto, .int .i64 fo.src, .int .i64 fo.sport, .int .i64 fo.dst, .int .i64 fo.dport, .int .i64 fo.kind, .int .i64 fb.proto, .int .i64 fb.src, .int .i64 fb.sport, .int .i64 fb.dst, .int .i64 fb.dport, .int .i64 fb.kind, .int .i64 s, .bool true, .bool false, .int .i64 tl, .int .i64 (fc + 1), .int .i64 0] rfl rfl rfl (by kernel_rfl) (by kernel_rfl) (by kernel_rfl) rfl rfl (by decide) (by kernel_rfl) (by kernel_rfl) (by decide) hGR5.out (by kernel_rfl) (by kernel_rfl) (by first | kernel_rfl | simp [Value.oneCell']) (by kernel_rfl) ?stepsY_21 ?finY_21
        case stepsY_21 =>
          refine ⟨?_, ?_, trivial⟩
          · refine ⟨rfl, fun v W ρ hC kc kf ks ki kd => ?_⟩
            have t4 : ρ (.tmp 4) = .pointer (some ⟨w.heap.size, 0, none⟩) := ki 4 (by decide)
            simp only [execOp, t4, Sem.run_bind, loadAt_part (o := 0) [.int .i64 fo.proto, .int .i64 fo.src, .int .i64 fo.sport, .int .i64 fo.dst, .int .i64 fo.dport, .int .i64 fo.kind, .int .i64 fb.proto, .int .i64 fb.src, .int .i64 fb.sport, .int .i64 fb.dst, .int .i64 fb.dport, .int .i64 fb.kind, .int .i64 s, .bool true, .bool false, .int .i64 tl, .int .i64 (fc + 1)] (blk_later hGF5.out hC) rfl Try.underlying29 rfl (by kernel_rfl), Result.andThen_ok, Sem.run_pure]
            exact ⟨hC, Below.refl _ _, rfl⟩
          · refine ⟨rfl, fun v W ρ hC kc kf ks ki kd => ?_⟩
            have d0 : v 0 = .agg #[.int .i64 fo.proto, .int .i64 fo.src, .int .i64 fo.sport, .int .i64 fo.dst, .int .i64 fo.dport, .int .i64 fo.kind, .int .i64 fb.proto, .int .i64 fb.src, .int .i64 fb.sport, .int .i64 fb.dst, .int .i64 fb.dport, .int .i64 fb.kind, .int .i64 s, .bool true, .bool false, .int .i64 tl, .int .i64 (fc + 1)] := by first | exact kd _ (mem0 rfl) rfl | exact kd _ (mem1 rfl) rfl | exact kd _ (mem2 rfl) rfl | exact kd _ (mem3 rfl) rfl | exact kd _ (mem4 rfl) rfl | exact kd _ (mem5 rfl) rfl | exact kd _ (Array.mem_of_getElem? (i := 6) rfl) rfl | exact kd _ (Array.mem_of_getElem? (i := 7) rfl) rfl
            have t73 : ρ (.tmp 73) = .agg #[.int .i64 fo.proto, .int .i64 fo.src, .int .i64 fo.sport, .int .i64 fo.dst, .int .i64 fo.dport, .int .i64 fo.kind, .int .i64 fb.proto, .int .i64 fb.src, .int .i64 fb.sport, .int .i64 fb.dst, .int .i64 fb.dport, .int .i64 fb.kind, .int .i64 s, .bool true, .bool false, .int .i64 tl, .int .i64 (fc + 1)] := (ks 0 73 (by decide) rfl).trans d0
            simp [execOp, go_sem, kc, t73]
            exact ⟨hC, Below.refl _ _, rfl⟩
        intro vY_21 WY_21 hBY_21 hgY_21 hall
        simp [upto, Act.put]
        clear hall
        have hEY_21 := hidS (hL5.out.trans (hBY_21 w.heap.size (by omega)))
        have hcY_21 := loadVar_blk (P := Try.prog) hgY_21 Try.underlying36 rfl (by kernel_rfl)
        clear hBY_21 hgY_21 hL5 hGF5 hGP5 hGR5
        go_wp2_with fail
        exact bodyPost_ret (v := .agg #[.int .i64 fo.proto, .int .i64 fo.src, .int .i64 fo.sport, .int .i64 fo.dst, .int .i64 fo.dport, .int .i64 fo.kind, .int .i64 fb.proto, .int .i64 fb.src, .int .i64 fb.sport, .int .i64 fb.dst, .int .i64 fb.dport, .int .i64 fb.kind, .int .i64 s, .bool true, .bool false, .int .i64 tl, .int .i64 (fc + 1), .int .i64 0]) (results_cell Try.results36 rfl hcY_21) rfl ⟨by rw [EX.out, EC.out] ; first | done | rfl, hEY_21.out⟩
      · have EX := hidS (flowX_yes now ⟨fo, fb, s, true, true, ft, fc⟩ EC.out (HLED.out.trans (by simp [h3])))
        have cP0 := blk_cell hGP2.out 0
        have cP1 := blk_cell hGP2.out 1
        have cP2 := blk_cell hGP2.out 2
        have cP3 := blk_cell hGP2.out 3
        have cP4 := blk_cell hGP2.out 4
        have cP5 := blk_cell hGP2.out 5
        have cP6 := blk_cell hGP2.out 6
        have cP7 := blk_cell hGP2.out 7
        have cP8 := blk_cell hGP2.out 8
        have cP9 := blk_cell hGP2.out 9
        simp at cP0 cP1 cP2 cP3 cP4 cP5 cP6 cP7 cP8 cP9
        have cF0 := blk_cell hGF2.out 0
        have cF1 := blk_cell hGF2.out 1
        have cF2 := blk_cell hGF2.out 2
        have cF3 := blk_cell hGF2.out 3
        have cF4 := blk_cell hGF2.out 4
        have cF5 := blk_cell hGF2.out 5
        have cF6 := blk_cell hGF2.out 6
        have cF7 := blk_cell hGF2.out 7
        have cF8 := blk_cell hGF2.out 8
        have cF9 := blk_cell hGF2.out 9
        have cF10 := blk_cell hGF2.out 10
        have cF11 := blk_cell hGF2.out 11
        have cF12 := blk_cell hGF2.out 12
        have cF13 := blk_cell hGF2.out 13
        have cF14 := blk_cell hGF2.out 14
        have cF15 := blk_cell hGF2.out 15
        have cF16 := blk_cell hGF2.out 16
        simp at cF0 cF1 cF2 cF3 cF4 cF5 cF6 cF7 cF8 cF9 cF10 cF11 cF12 cF13 cF14 cF15 cF16
        have kF := blk_cell hGF2.out
        have fF := blk_free hGF2.out
        go_upto_region 10 with fail
        clear cP0 cP1 cP2 cP3 cP4 cP5 cP6 cP7 cP8 cP9 cF0 cF1 cF2 cF3 cF4 cF5 cF6 cF7 cF8 cF9 cF10 cF11 cF12 cF13 cF14 cF15 cF16 kF fF
        have hGF3 : Hid (((w2.setCell ⟨w.heap.size, 13, none⟩ (.bool true)).setCell ⟨w.heap.size, 14, none⟩ (.bool true)).heap[w.heap.size]? = some (.cells #[.int .i64 fo.proto, .int .i64 fo.src, .int .i64 fo.sport, .int .i64 fo.dst, .int .i64 fo.dport, .int .i64 fo.kind, .int .i64 fb.proto, .int .i64 fb.src, .int .i64 fb.sport, .int .i64 fb.dst, .int .i64 fb.dport, .int .i64 fb.kind, .int .i64 s, .bool true, .bool true, .int .i64 ft, .int .i64 fc] 29)) := by
          have := (blk_set (blk_set hGF2.out 13 (.bool true)) 14 (.bool true))
          exact this
        have hGP3 := hidS (blk_other (B := w.heap.size) (blk_other (B := w.heap.size) hGP2.out (by omega) 13 (.bool true)) (by omega) 14 (.bool true))
        have hGR3 := hidS (blk_other (B := w.heap.size) (blk_other (B := w.heap.size) hGR2.out (by omega) 13 (.bool true)) (by omega) 14 (.bool true))
        have hL3 := hidS (below_at (k := 14) (b := w.heap.size) (v := .bool true) (below_at (k := 13) (b := w.heap.size) (v := .bool true) hL2.out (by omega)) (by omega))
        clear hL2 hGF2 hGP2 hGR2
        generalize ((w2.setCell ⟨w.heap.size, 13, none⟩ (.bool true)).setCell ⟨w.heap.size, 14, none⟩ (.bool true)) = w3 at hGF3 hGP3 hGR3 hL3 ⊢
        go_wp2_with (first | refine wpList_load_blk 29 (.tmp 4) rfl rfl rfl hGF3.out Try.underlying29 rfl (by kernel_rfl) ?_)
        refine (HU.out ⟨fo, fb, s, true, true, ft, fc⟩ _).mono ?_
        rintro _ w4 ⟨rfl, hb4⟩
        have hGF4 := hidS (blk_later hGF3.out hb4)
        have hGP4 := hidS (blk_later hGP3.out hb4)
        have hGR4 := hidS (blk_later hGR3.out hb4)
        have hL4 := hidS (hL3.out.trans (hb4.mono hL3.out.size))
        clear hb4 hL3 hGF3 hGP3 hGR3
        generalize hTL : tillF ⟨fo, fb, s, true, true, ft, fc⟩ now = tl at *
        have cF0 := blk_cell hGF4.out 0
        have cF1 := blk_cell hGF4.out 1
        have cF2 := blk_cell hGF4.out 2
        have cF3 := blk_cell hGF4.out 3
        have cF4 := blk_cell hGF4.out 4
        have cF5 := blk_cell hGF4.out 5
        have cF6 := blk_cell hGF4.out 6
        have cF7 := blk_cell hGF4.out 7
        have cF8 := blk_cell hGF4.out 8
        have cF9 := blk_cell hGF4.out 9
        have cF10 := blk_cell hGF4.out 10
        have cF11 := blk_cell hGF4.out 11
        have cF12 := blk_cell hGF4.out 12
        have cF13 := blk_cell hGF4.out 13
        have cF14 := blk_cell hGF4.out 14
        have cF15 := blk_cell hGF4.out 15
        have cF16 := blk_cell hGF4.out 16
        simp at cF0 cF1 cF2 cF3 cF4 cF5 cF6 cF7 cF8 cF9 cF10 cF11 cF12 cF13 cF14 cF15 cF16
        have kF := blk_cell hGF4.out
        have fF := blk_free hGF4.out
        go_upto_region 12 with fail
        clear cF0 cF1 cF2 cF3 cF4 cF5 cF6 cF7 cF8 cF9 cF10 cF11 cF12 cF13 cF14 cF15 cF16 kF fF
        have hGF5 : Hid (((w4.setCell ⟨w.heap.size, 15, none⟩ (.int .i64 tl)).setCell ⟨w.heap.size, 16, none⟩ (.int .i64 (fc + 1))).heap[w.heap.size]? = some (.cells #[.int .i64 fo.proto, .int .i64 fo.src, .int .i64 fo.sport, .int .i64 fo.dst, .int .i64 fo.dport, .int .i64 fo.kind, .int .i64 fb.proto, .int .i64 fb.src, .int .i64 fb.sport, .int .i64 fb.dst, .int .i64 fb.dport, .int .i64 fb.kind, .int .i64 s, .bool true, .bool true, .int .i64 tl, .int .i64 (fc + 1)] 29)) := by
          have := (blk_set (blk_set hGF4.out 15 (.int .i64 tl)) 16 (.int .i64 (fc + 1)))
          exact this
        have hGP5 := hidS (blk_other (B := w.heap.size) (blk_other (B := w.heap.size) hGP4.out (by omega) 15 (.int .i64 tl)) (by omega) 16 (.int .i64 (fc + 1)))
        have hGR5 := hidS (blk_other (B := w.heap.size) (blk_other (B := w.heap.size) hGR4.out (by omega) 15 (.int .i64 tl)) (by omega) 16 (.int .i64 (fc + 1)))
        have hL5 := hidS (below_at (k := 16) (b := w.heap.size) (v := .int .i64 (fc + 1)) (below_at (k := 15) (b := w.heap.size) (v := .int .i64 tl) hL4.out (by omega)) (by omega))
        clear hL4 hGF4 hGP4 hGR4
        generalize ((w4.setCell ⟨w.heap.size, 15, none⟩ (.int .i64 tl)).setCell ⟨w.heap.size, 16, none⟩ (.int .i64 (fc + 1))) = w5 at hGF5 hGP5 hGR5 hL5 ⊢
        refine plain_into 2 _ [.is (.agg #[.int .i64 fo.proto, .int .i64 fo.src, .int .i64 fo.sport, .int .i64 fo.dst, .int .i64 fo.dport, .int .i64 fo.kind, .int .i64 fb.proto, .int .i64 fb.src, .int .i64 fb.sport, .int .i64 fb.dst, .int .i64 fb.dport, .int .i64 fb.kind, .int .i64 s, .bool true, .bool true, .int .i64 tl, .int .i64 (fc + 1)]), .is (.agg #[.int .i64 fo.proto, .int .i64 fo.src, .int .i64 fo.sport, .int .i64 fo.dst, .int .i64 fo.dport, .int .i64 fo.kind, .int .i64 fb.proto, .int .i64 fb.src, .int .i64 fb.sport, .int .i64 fb.dst, .int .i64 fb.dport, .int .i64 fb.kind, .int .i64 s, .bool true, .bool true, .int .i64 tl, .int .i64 (fc + 1), .int .i64 0])] 1 8 74 36 36 (w.heap.size + 2) #[.int .i64 0, .int .i64 0, .int .i64 0, .int .i64 0, .int .i64 0, .int .i64 0, .int .i64 0, .int .i64 0, .int .i64 0, .int .i64 0, .int .i64 0, .int .i64 0, .int .i64 0, .bool false, .bool false, .int .i64 0, .int .i64 0, .int .i64 0] #[.int .i64 fo.proto, .int .i64 fo.src, .int .i64 fo.sport, .int .i64 fo.dst, .int .i64 fo.dport, .int .i64 fo.kind, .int .i64 fb.proto, .int .i64 fb.src, .int .i64 fb.sport, .int .i64 fb.dst, .int .i64 fb.dport, .int .i64 fb.kind, .int .i64 s, .bool true, .bool true, .int .i64 tl, .int .i64 (fc + 1), .int .i64 0] rfl rfl rfl (by kernel_rfl) (by kernel_rfl) (by kernel_rfl) rfl rfl (by decide) (by kernel_rfl) (by kernel_rfl) (by decide) hGR5.out (by kernel_rfl) (by kernel_rfl) (by first | kernel_rfl | simp [Value.oneCell']) (by kernel_rfl) ?stepsY_22 ?finY_22
        case stepsY_22 =>
          refine ⟨?_, ?_, trivial⟩
          · refine ⟨rfl, fun v W ρ hC kc kf ks ki kd => ?_⟩
            have t4 : ρ (.tmp 4) = .pointer (some ⟨w.heap.size, 0, none⟩) := ki 4 (by decide)
            simp only [execOp, t4, Sem.run_bind, loadAt_part (o := 0) [.int .i64 fo.proto, .int .i64 fo.src, .int .i64 fo.sport, .int .i64 fo.dst, .int .i64 fo.dport, .int .i64 fo.kind, .int .i64 fb.proto, .int .i64 fb.src, .int .i64 fb.sport, .int .i64 fb.dst, .int .i64 fb.dport, .int .i64 fb.kind, .int .i64 s, .bool true, .bool true, .int .i64 tl, .int .i64 (fc + 1)] (blk_later hGF5.out hC) rfl Try.underlying29 rfl (by kernel_rfl), Result.andThen_ok, Sem.run_pure]
            exact ⟨hC, Below.refl _ _, rfl⟩
          · refine ⟨rfl, fun v W ρ hC kc kf ks ki kd => ?_⟩
            have d0 : v 0 = .agg #[.int .i64 fo.proto, .int .i64 fo.src, .int .i64 fo.sport, .int .i64 fo.dst, .int .i64 fo.dport, .int .i64 fo.kind, .int .i64 fb.proto, .int .i64 fb.src, .int .i64 fb.sport, .int .i64 fb.dst, .int .i64 fb.dport, .int .i64 fb.kind, .int .i64 s, .bool true, .bool true, .int .i64 tl, .int .i64 (fc + 1)] := by first | exact kd _ (mem0 rfl) rfl | exact kd _ (mem1 rfl) rfl | exact kd _ (mem2 rfl) rfl | exact kd _ (mem3 rfl) rfl | exact kd _ (mem4 rfl) rfl | exact kd _ (mem5 rfl) rfl | exact kd _ (Array.mem_of_getElem? (i := 6) rfl) rfl | exact kd _ (Array.mem_of_getElem? (i := 7) rfl) rfl
            have t73 : ρ (.tmp 73) = .agg #[.int .i64 fo.proto, .int .i64 fo.src, .int .i64 fo.sport, .int .i64 fo.dst, .int .i64 fo.dport, .int .i64 fo.kind, .int .i64 fb.proto, .int .i64 fb.src, .int .i64 fb.sport, .int .i64 fb.dst, .int .i64 fb.dport, .int .i64 fb.kind, .int .i64 s, .bool true, .bool true, .int .i64 tl, .int .i64 (fc + 1)] := (ks 0 73 (by decide) rfl).trans d0
            simp [execOp, go_sem, kc, t73]
            exact ⟨hC, Below.refl _ _, rfl⟩
        intro vY_22 WY_22 hBY_22 hgY_22 hall
        simp [upto, Act.put]
        clear hall
        have hEY_22 := hidS (hL5.out.trans (hBY_22 w.heap.size (by omega)))
        have hcY_22 := loadVar_blk (P := Try.prog) hgY_22 Try.underlying36 rfl (by kernel_rfl)
        clear hBY_22 hgY_22 hL5 hGF5 hGP5 hGR5
        go_wp2_with fail
        exact bodyPost_ret (v := .agg #[.int .i64 fo.proto, .int .i64 fo.src, .int .i64 fo.sport, .int .i64 fo.dst, .int .i64 fo.dport, .int .i64 fo.kind, .int .i64 fb.proto, .int .i64 fb.src, .int .i64 fb.sport, .int .i64 fb.dst, .int .i64 fb.dport, .int .i64 fb.kind, .int .i64 s, .bool true, .bool true, .int .i64 tl, .int .i64 (fc + 1), .int .i64 0]) (results_cell Try.results36 rfl hcY_22) rfl ⟨by rw [EX.out, EC.out] ; first | done | rfl, hEY_22.out⟩
    · have EX := hidS (flowX_yes now ⟨fo, fb, s, true, true, ft, fc⟩ EC.out (HLED.out.trans (by simp)))
      have cP0 := blk_cell hGP2.out 0
      have cP1 := blk_cell hGP2.out 1
      have cP2 := blk_cell hGP2.out 2
      have cP3 := blk_cell hGP2.out 3
      have cP4 := blk_cell hGP2.out 4
      have cP5 := blk_cell hGP2.out 5
      have cP6 := blk_cell hGP2.out 6
      have cP7 := blk_cell hGP2.out 7
      have cP8 := blk_cell hGP2.out 8
      have cP9 := blk_cell hGP2.out 9
      simp at cP0 cP1 cP2 cP3 cP4 cP5 cP6 cP7 cP8 cP9
      have cF0 := blk_cell hGF2.out 0
      have cF1 := blk_cell hGF2.out 1
      have cF2 := blk_cell hGF2.out 2
      have cF3 := blk_cell hGF2.out 3
      have cF4 := blk_cell hGF2.out 4
      have cF5 := blk_cell hGF2.out 5
      have cF6 := blk_cell hGF2.out 6
      have cF7 := blk_cell hGF2.out 7
      have cF8 := blk_cell hGF2.out 8
      have cF9 := blk_cell hGF2.out 9
      have cF10 := blk_cell hGF2.out 10
      have cF11 := blk_cell hGF2.out 11
      have cF12 := blk_cell hGF2.out 12
      have cF13 := blk_cell hGF2.out 13
      have cF14 := blk_cell hGF2.out 14
      have cF15 := blk_cell hGF2.out 15
      have cF16 := blk_cell hGF2.out 16
      simp at cF0 cF1 cF2 cF3 cF4 cF5 cF6 cF7 cF8 cF9 cF10 cF11 cF12 cF13 cF14 cF15 cF16
      have kF := blk_cell hGF2.out
      have fF := blk_free hGF2.out
      go_upto_region 10 with fail
      clear cP0 cP1 cP2 cP3 cP4 cP5 cP6 cP7 cP8 cP9 cF0 cF1 cF2 cF3 cF4 cF5 cF6 cF7 cF8 cF9 cF10 cF11 cF12 cF13 cF14 cF15 cF16 kF fF
      have hGF3 : Hid (((w2.setCell ⟨w.heap.size, 13, none⟩ (.bool true)).setCell ⟨w.heap.size, 14, none⟩ (.bool true)).heap[w.heap.size]? = some (.cells #[.int .i64 fo.proto, .int .i64 fo.src, .int .i64 fo.sport, .int .i64 fo.dst, .int .i64 fo.dport, .int .i64 fo.kind, .int .i64 fb.proto, .int .i64 fb.src, .int .i64 fb.sport, .int .i64 fb.dst, .int .i64 fb.dport, .int .i64 fb.kind, .int .i64 s, .bool true, .bool true, .int .i64 ft, .int .i64 fc] 29)) := by
        have := (blk_set (blk_set hGF2.out 13 (.bool true)) 14 (.bool true))
        exact this
      have hGP3 := hidS (blk_other (B := w.heap.size) (blk_other (B := w.heap.size) hGP2.out (by omega) 13 (.bool true)) (by omega) 14 (.bool true))
      have hGR3 := hidS (blk_other (B := w.heap.size) (blk_other (B := w.heap.size) hGR2.out (by omega) 13 (.bool true)) (by omega) 14 (.bool true))
      have hL3 := hidS (below_at (k := 14) (b := w.heap.size) (v := .bool true) (below_at (k := 13) (b := w.heap.size) (v := .bool true) hL2.out (by omega)) (by omega))
      clear hL2 hGF2 hGP2 hGR2
      generalize ((w2.setCell ⟨w.heap.size, 13, none⟩ (.bool true)).setCell ⟨w.heap.size, 14, none⟩ (.bool true)) = w3 at hGF3 hGP3 hGR3 hL3 ⊢
      go_wp2_with (first | refine wpList_load_blk 29 (.tmp 4) rfl rfl rfl hGF3.out Try.underlying29 rfl (by kernel_rfl) ?_)
      refine (HU.out ⟨fo, fb, s, true, true, ft, fc⟩ _).mono ?_
      rintro _ w4 ⟨rfl, hb4⟩
      have hGF4 := hidS (blk_later hGF3.out hb4)
      have hGP4 := hidS (blk_later hGP3.out hb4)
      have hGR4 := hidS (blk_later hGR3.out hb4)
      have hL4 := hidS (hL3.out.trans (hb4.mono hL3.out.size))
      clear hb4 hL3 hGF3 hGP3 hGR3
      generalize hTL : tillF ⟨fo, fb, s, true, true, ft, fc⟩ now = tl at *
      have cF0 := blk_cell hGF4.out 0
      have cF1 := blk_cell hGF4.out 1
      have cF2 := blk_cell hGF4.out 2
      have cF3 := blk_cell hGF4.out 3
      have cF4 := blk_cell hGF4.out 4
      have cF5 := blk_cell hGF4.out 5
      have cF6 := blk_cell hGF4.out 6
      have cF7 := blk_cell hGF4.out 7
      have cF8 := blk_cell hGF4.out 8
      have cF9 := blk_cell hGF4.out 9
      have cF10 := blk_cell hGF4.out 10
      have cF11 := blk_cell hGF4.out 11
      have cF12 := blk_cell hGF4.out 12
      have cF13 := blk_cell hGF4.out 13
      have cF14 := blk_cell hGF4.out 14
      have cF15 := blk_cell hGF4.out 15
      have cF16 := blk_cell hGF4.out 16
      simp at cF0 cF1 cF2 cF3 cF4 cF5 cF6 cF7 cF8 cF9 cF10 cF11 cF12 cF13 cF14 cF15 cF16
      have kF := blk_cell hGF4.out
      have fF := blk_free hGF4.out
      go_upto_region 12 with fail
      clear cF0 cF1 cF2 cF3 cF4 cF5 cF6 cF7 cF8 cF9 cF10 cF11 cF12 cF13 cF14 cF15 cF16 kF fF
      have hGF5 : Hid (((w4.setCell ⟨w.heap.size, 15, none⟩ (.int .i64 tl)).setCell ⟨w.heap.size, 16, none⟩ (.int .i64 (fc + 1))).heap[w.heap.size]? = some (.cells #[.int .i64 fo.proto, .int .i64 fo.src, .int .i64 fo.sport, .int .i64 fo.dst, .int .i64 fo.dport, .int .i64 fo.kind, .int .i64 fb.proto, .int .i64 fb.src, .int .i64 fb.sport, .int .i64 fb.dst, .int .i64 fb.dport, .int .i64 fb.kind, .int .i64 s, .bool true, .bool true, .int .i64 tl, .int .i64 (fc + 1)] 29)) := by
        have := (blk_set (blk_set hGF4.out 15 (.int .i64 tl)) 16 (.int .i64 (fc + 1)))
        exact this
      have hGP5 := hidS (blk_other (B := w.heap.size) (blk_other (B := w.heap.size) hGP4.out (by omega) 15 (.int .i64 tl)) (by omega) 16 (.int .i64 (fc + 1)))
      have hGR5 := hidS (blk_other (B := w.heap.size) (blk_other (B := w.heap.size) hGR4.out (by omega) 15 (.int .i64 tl)) (by omega) 16 (.int .i64 (fc + 1)))
      have hL5 := hidS (below_at (k := 16) (b := w.heap.size) (v := .int .i64 (fc + 1)) (below_at (k := 15) (b := w.heap.size) (v := .int .i64 tl) hL4.out (by omega)) (by omega))
      clear hL4 hGF4 hGP4 hGR4
      generalize ((w4.setCell ⟨w.heap.size, 15, none⟩ (.int .i64 tl)).setCell ⟨w.heap.size, 16, none⟩ (.int .i64 (fc + 1))) = w5 at hGF5 hGP5 hGR5 hL5 ⊢
      refine plain_into 2 _ [.is (.agg #[.int .i64 fo.proto, .int .i64 fo.src, .int .i64 fo.sport, .int .i64 fo.dst, .int .i64 fo.dport, .int .i64 fo.kind, .int .i64 fb.proto, .int .i64 fb.src, .int .i64 fb.sport, .int .i64 fb.dst, .int .i64 fb.dport, .int .i64 fb.kind, .int .i64 s, .bool true, .bool true, .int .i64 tl, .int .i64 (fc + 1)]), .is (.agg #[.int .i64 fo.proto, .int .i64 fo.src, .int .i64 fo.sport, .int .i64 fo.dst, .int .i64 fo.dport, .int .i64 fo.kind, .int .i64 fb.proto, .int .i64 fb.src, .int .i64 fb.sport, .int .i64 fb.dst, .int .i64 fb.dport, .int .i64 fb.kind, .int .i64 s, .bool true, .bool true, .int .i64 tl, .int .i64 (fc + 1), .int .i64 0])] 1 8 74 36 36 (w.heap.size + 2) #[.int .i64 0, .int .i64 0, .int .i64 0, .int .i64 0, .int .i64 0, .int .i64 0, .int .i64 0, .int .i64 0, .int .i64 0, .int .i64 0, .int .i64 0, .int .i64 0, .int .i64 0, .bool false, .bool false, .int .i64 0, .int .i64 0, .int .i64 0] #[.int .i64 fo.proto, .int .i64 fo.src, .int .i64 fo.sport, .int .i64 fo.dst, .int .i64 fo.dport, .int .i64 fo.kind, .int .i64 fb.proto, .int .i64 fb.src, .int .i64 fb.sport, .int .i64 fb.dst, .int .i64 fb.dport, .int .i64 fb.kind, .int .i64 s, .bool true, .bool true, .int .i64 tl, .int .i64 (fc + 1), .int .i64 0] rfl rfl rfl (by kernel_rfl) (by kernel_rfl) (by kernel_rfl) rfl rfl (by decide) (by kernel_rfl) (by kernel_rfl) (by decide) hGR5.out (by kernel_rfl) (by kernel_rfl) (by first | kernel_rfl | simp [Value.oneCell']) (by kernel_rfl) ?stepsY_23 ?finY_23
      case stepsY_23 =>
        refine ⟨?_, ?_, trivial⟩
        · refine ⟨rfl, fun v W ρ hC kc kf ks ki kd => ?_⟩
          have t4 : ρ (.tmp 4) = .pointer (some ⟨w.heap.size, 0, none⟩) := ki 4 (by decide)
          simp only [execOp, t4, Sem.run_bind, loadAt_part (o := 0) [.int .i64 fo.proto, .int .i64 fo.src, .int .i64 fo.sport, .int .i64 fo.dst, .int .i64 fo.dport, .int .i64 fo.kind, .int .i64 fb.proto, .int .i64 fb.src, .int .i64 fb.sport, .int .i64 fb.dst, .int .i64 fb.dport, .int .i64 fb.kind, .int .i64 s, .bool true, .bool true, .int .i64 tl, .int .i64 (fc + 1)] (blk_later hGF5.out hC) rfl Try.underlying29 rfl (by kernel_rfl), Result.andThen_ok, Sem.run_pure]
          exact ⟨hC, Below.refl _ _, rfl⟩
        · refine ⟨rfl, fun v W ρ hC kc kf ks ki kd => ?_⟩
          have d0 : v 0 = .agg #[.int .i64 fo.proto, .int .i64 fo.src, .int .i64 fo.sport, .int .i64 fo.dst, .int .i64 fo.dport, .int .i64 fo.kind, .int .i64 fb.proto, .int .i64 fb.src, .int .i64 fb.sport, .int .i64 fb.dst, .int .i64 fb.dport, .int .i64 fb.kind, .int .i64 s, .bool true, .bool true, .int .i64 tl, .int .i64 (fc + 1)] := by first | exact kd _ (mem0 rfl) rfl | exact kd _ (mem1 rfl) rfl | exact kd _ (mem2 rfl) rfl | exact kd _ (mem3 rfl) rfl | exact kd _ (mem4 rfl) rfl | exact kd _ (mem5 rfl) rfl | exact kd _ (Array.mem_of_getElem? (i := 6) rfl) rfl | exact kd _ (Array.mem_of_getElem? (i := 7) rfl) rfl
          have t73 : ρ (.tmp 73) = .agg #[.int .i64 fo.proto, .int .i64 fo.src, .int .i64 fo.sport, .int .i64 fo.dst, .int .i64 fo.dport, .int .i64 fo.kind, .int .i64 fb.proto, .int .i64 fb.src, .int .i64 fb.sport, .int .i64 fb.dst, .int .i64 fb.dport, .int .i64 fb.kind, .int .i64 s, .bool true, .bool true, .int .i64 tl, .int .i64 (fc + 1)] := (ks 0 73 (by decide) rfl).trans d0
          simp [execOp, go_sem, kc, t73]
          exact ⟨hC, Below.refl _ _, rfl⟩
      intro vY_23 WY_23 hBY_23 hgY_23 hall
      simp [upto, Act.put]
      clear hall
      have hEY_23 := hidS (hL5.out.trans (hBY_23 w.heap.size (by omega)))
      have hcY_23 := loadVar_blk (P := Try.prog) hgY_23 Try.underlying36 rfl (by kernel_rfl)
      clear hBY_23 hgY_23 hL5 hGF5 hGP5 hGR5
      go_wp2_with fail
      exact bodyPost_ret (v := .agg #[.int .i64 fo.proto, .int .i64 fo.src, .int .i64 fo.sport, .int .i64 fo.dst, .int .i64 fo.dport, .int .i64 fo.kind, .int .i64 fb.proto, .int .i64 fb.src, .int .i64 fb.sport, .int .i64 fb.dst, .int .i64 fb.dport, .int .i64 fb.kind, .int .i64 s, .bool true, .bool true, .int .i64 tl, .int .i64 (fc + 1), .int .i64 0]) (results_cell Try.results36 rfl hcY_23) rfl ⟨by rw [EX.out, EC.out] ; first | done | rfl, hEY_23.out⟩
end Go.Proofs.Ytbhemimhmkgfiaa
