/- Proved here: spec.l09Next answers as the plain function; all old memory stays (no conditions but those that stand there). -/
import Derived.Test.YtbhemimhmkgfiaaFlowS3
namespace Go.Proofs.Ytbhemimhmkgfiaa
open Go.ChangeShapes Go.WideShapes Go.ChangeAt Go.RowKit
set_option linter.unusedVariables false
set_option linter.unusedSimpArgs false
set_option maxRecDepth 100000

set_option maxHeartbeats 8000000 in
theorem l09Next_udp (fo fb : Tp) (fs ft fc : Int) (fn fu : Bool) (p : Pk) (b : Bool) (now : Int) (w : World) (h0 : 0 ≤ now ∧ now ≤ 1000000) (hc : 1 ≤ fc ∧ fc ≤ 1000000) (h17 : p.proto = 17) :
    Calls Try.prog 36 #[.agg #[.int .i64 fo.proto, .int .i64 fo.src, .int .i64 fo.sport, .int .i64 fo.dst, .int .i64 fo.dport, .int .i64 fo.kind, .int .i64 fb.proto, .int .i64 fb.src, .int .i64 fb.sport, .int .i64 fb.dst, .int .i64 fb.dport, .int .i64 fb.kind, .int .i64 fs, .bool fn, .bool fu, .int .i64 ft, .int .i64 fc], .agg #[.int .i64 p.src, .int .i64 p.dst, .int .i64 p.proto, .int .i64 p.a, .int .i64 p.b, .int .i64 p.kind, .int .i64 p.flags, .int .i64 p.seq, .int .i64 p.ack, .string p.body], .bool b, .int .i64 now] w fun e w' => e = .returned (.agg #[.int .i64 (flowX ⟨fo, fb, fs, fn, fu, ft, fc⟩ p b now).orig.proto, .int .i64 (flowX ⟨fo, fb, fs, fn, fu, ft, fc⟩ p b now).orig.src, .int .i64 (flowX ⟨fo, fb, fs, fn, fu, ft, fc⟩ p b now).orig.sport, .int .i64 (flowX ⟨fo, fb, fs, fn, fu, ft, fc⟩ p b now).orig.dst, .int .i64 (flowX ⟨fo, fb, fs, fn, fu, ft, fc⟩ p b now).orig.dport, .int .i64 (flowX ⟨fo, fb, fs, fn, fu, ft, fc⟩ p b now).orig.kind, .int .i64 (flowX ⟨fo, fb, fs, fn, fu, ft, fc⟩ p b now).back.proto, .int .i64 (flowX ⟨fo, fb, fs, fn, fu, ft, fc⟩ p b now).back.src, .int .i64 (flowX ⟨fo, fb, fs, fn, fu, ft, fc⟩ p b now).back.sport, .int .i64 (flowX ⟨fo, fb, fs, fn, fu, ft, fc⟩ p b now).back.dst, .int .i64 (flowX ⟨fo, fb, fs, fn, fu, ft, fc⟩ p b now).back.dport, .int .i64 (flowX ⟨fo, fb, fs, fn, fu, ft, fc⟩ p b now).back.kind, .int .i64 (flowX ⟨fo, fb, fs, fn, fu, ft, fc⟩ p b now).state, .bool (flowX ⟨fo, fb, fs, fn, fu, ft, fc⟩ p b now).seen, .bool (flowX ⟨fo, fb, fs, fn, fu, ft, fc⟩ p b now).sure, .int .i64 (flowX ⟨fo, fb, fs, fn, fu, ft, fc⟩ p b now).till, .int .i64 (flowX ⟨fo, fb, fs, fn, fu, ft, fc⟩ p b now).count, .int .i64 (codeX ⟨fo, fb, fs, fn, fu, ft, fc⟩ p b)]) ∧ Below w.heap.size w w' := by
  have HS := hidS (fun W => sameB (specSign_any p.flags W))
  have HI10 := hidS (fun W => l09Ill_any 10 W)
  have HI9 := hidS (fun W => l09Ill_any 9 W)
  have HU := hidS (fun F W => specTill_any F now W h0 (life_bd F.state))
  obtain ⟨hc0, hc1⟩ := hc
  clear h0
  replace h17 := hidS h17
  have hGF0 : Hid ((((w.alloc (.cells #[.int .i64 fo.proto, .int .i64 fo.src, .int .i64 fo.sport, .int .i64 fo.dst, .int .i64 fo.dport, .int .i64 fo.kind, .int .i64 fb.proto, .int .i64 fb.src, .int .i64 fb.sport, .int .i64 fb.dst, .int .i64 fb.dport, .int .i64 fb.kind, .int .i64 fs, .bool fn, .bool fu, .int .i64 ft, .int .i64 fc] 29)).alloc (.cells #[.int .i64 p.src, .int .i64 p.dst, .int .i64 p.proto, .int .i64 p.a, .int .i64 p.b, .int .i64 p.kind, .int .i64 p.flags, .int .i64 p.seq, .int .i64 p.ack, .string p.body] 38)).alloc (.cells #[.int .i64 0, .int .i64 0, .int .i64 0, .int .i64 0, .int .i64 0, .int .i64 0, .int .i64 0, .int .i64 0, .int .i64 0, .int .i64 0, .int .i64 0, .int .i64 0, .int .i64 0, .bool false, .bool false, .int .i64 0, .int .i64 0, .int .i64 0] 36)).heap[w.heap.size]? = some (.cells #[.int .i64 fo.proto, .int .i64 fo.src, .int .i64 fo.sport, .int .i64 fo.dst, .int .i64 fo.dport, .int .i64 fo.kind, .int .i64 fb.proto, .int .i64 fb.src, .int .i64 fb.sport, .int .i64 fb.dst, .int .i64 fb.dport, .int .i64 fb.kind, .int .i64 fs, .bool fn, .bool fu, .int .i64 ft, .int .i64 fc] 29)) := by
    show _ = _
    have := blk_alloc (blk_alloc (heap_newG w (.cells #[.int .i64 fo.proto, .int .i64 fo.src, .int .i64 fo.sport, .int .i64 fo.dst, .int .i64 fo.dport, .int .i64 fo.kind, .int .i64 fb.proto, .int .i64 fb.src, .int .i64 fb.sport, .int .i64 fb.dst, .int .i64 fb.dport, .int .i64 fb.kind, .int .i64 fs, .bool fn, .bool fu, .int .i64 ft, .int .i64 fc] 29)) (.cells #[.int .i64 p.src, .int .i64 p.dst, .int .i64 p.proto, .int .i64 p.a, .int .i64 p.b, .int .i64 p.kind, .int .i64 p.flags, .int .i64 p.seq, .int .i64 p.ack, .string p.body] 38)) (.cells #[.int .i64 0, .int .i64 0, .int .i64 0, .int .i64 0, .int .i64 0, .int .i64 0, .int .i64 0, .int .i64 0, .int .i64 0, .int .i64 0, .int .i64 0, .int .i64 0, .int .i64 0, .bool false, .bool false, .int .i64 0, .int .i64 0, .int .i64 0] 36)
    simpa using this
  have hGP0 : Hid ((((w.alloc (.cells #[.int .i64 fo.proto, .int .i64 fo.src, .int .i64 fo.sport, .int .i64 fo.dst, .int .i64 fo.dport, .int .i64 fo.kind, .int .i64 fb.proto, .int .i64 fb.src, .int .i64 fb.sport, .int .i64 fb.dst, .int .i64 fb.dport, .int .i64 fb.kind, .int .i64 fs, .bool fn, .bool fu, .int .i64 ft, .int .i64 fc] 29)).alloc (.cells #[.int .i64 p.src, .int .i64 p.dst, .int .i64 p.proto, .int .i64 p.a, .int .i64 p.b, .int .i64 p.kind, .int .i64 p.flags, .int .i64 p.seq, .int .i64 p.ack, .string p.body] 38)).alloc (.cells #[.int .i64 0, .int .i64 0, .int .i64 0, .int .i64 0, .int .i64 0, .int .i64 0, .int .i64 0, .int .i64 0, .int .i64 0, .int .i64 0, .int .i64 0, .int .i64 0, .int .i64 0, .bool false, .bool false, .int .i64 0, .int .i64 0, .int .i64 0] 36)).heap[w.heap.size + 1]? = some (.cells #[.int .i64 p.src, .int .i64 p.dst, .int .i64 p.proto, .int .i64 p.a, .int .i64 p.b, .int .i64 p.kind, .int .i64 p.flags, .int .i64 p.seq, .int .i64 p.ack, .string p.body] 38)) := by
    show _ = _
    have := blk_alloc (heap_newG (w.alloc (.cells #[.int .i64 fo.proto, .int .i64 fo.src, .int .i64 fo.sport, .int .i64 fo.dst, .int .i64 fo.dport, .int .i64 fo.kind, .int .i64 fb.proto, .int .i64 fb.src, .int .i64 fb.sport, .int .i64 fb.dst, .int .i64 fb.dport, .int .i64 fb.kind, .int .i64 fs, .bool fn, .bool fu, .int .i64 ft, .int .i64 fc] 29)) (.cells #[.int .i64 p.src, .int .i64 p.dst, .int .i64 p.proto, .int .i64 p.a, .int .i64 p.b, .int .i64 p.kind, .int .i64 p.flags, .int .i64 p.seq, .int .i64 p.ack, .string p.body] 38)) (.cells #[.int .i64 0, .int .i64 0, .int .i64 0, .int .i64 0, .int .i64 0, .int .i64 0, .int .i64 0, .int .i64 0, .int .i64 0, .int .i64 0, .int .i64 0, .int .i64 0, .int .i64 0, .bool false, .bool false, .int .i64 0, .int .i64 0, .int .i64 0] 36)
    simpa using this
  have hGR0 : Hid ((((w.alloc (.cells #[.int .i64 fo.proto, .int .i64 fo.src, .int .i64 fo.sport, .int .i64 fo.dst, .int .i64 fo.dport, .int .i64 fo.kind, .int .i64 fb.proto, .int .i64 fb.src, .int .i64 fb.sport, .int .i64 fb.dst, .int .i64 fb.dport, .int .i64 fb.kind, .int .i64 fs, .bool fn, .bool fu, .int .i64 ft, .int .i64 fc] 29)).alloc (.cells #[.int .i64 p.src, .int .i64 p.dst, .int .i64 p.proto, .int .i64 p.a, .int .i64 p.b, .int .i64 p.kind, .int .i64 p.flags, .int .i64 p.seq, .int .i64 p.ack, .string p.body] 38)).alloc (.cells #[.int .i64 0, .int .i64 0, .int .i64 0, .int .i64 0, .int .i64 0, .int .i64 0, .int .i64 0, .int .i64 0, .int .i64 0, .int .i64 0, .int .i64 0, .int .i64 0, .int .i64 0, .bool false, .bool false, .int .i64 0, .int .i64 0, .int .i64 0] 36)).heap[w.heap.size + 2]? = some (.cells #[.int .i64 0, .int .i64 0, .int .i64 0, .int .i64 0, .int .i64 0, .int .i64 0, .int .i64 0, .int .i64 0, .int .i64 0, .int .i64 0, .int .i64 0, .int .i64 0, .int .i64 0, .bool false, .bool false, .int .i64 0, .int .i64 0, .int .i64 0] 36)) := by
    show _ = _
    have := heap_newG ((w.alloc (.cells #[.int .i64 fo.proto, .int .i64 fo.src, .int .i64 fo.sport, .int .i64 fo.dst, .int .i64 fo.dport, .int .i64 fo.kind, .int .i64 fb.proto, .int .i64 fb.src, .int .i64 fb.sport, .int .i64 fb.dst, .int .i64 fb.dport, .int .i64 fb.kind, .int .i64 fs, .bool fn, .bool fu, .int .i64 ft, .int .i64 fc] 29)).alloc (.cells #[.int .i64 p.src, .int .i64 p.dst, .int .i64 p.proto, .int .i64 p.a, .int .i64 p.b, .int .i64 p.kind, .int .i64 p.flags, .int .i64 p.seq, .int .i64 p.ack, .string p.body] 38)) (.cells #[.int .i64 0, .int .i64 0, .int .i64 0, .int .i64 0, .int .i64 0, .int .i64 0, .int .i64 0, .int .i64 0, .int .i64 0, .int .i64 0, .int .i64 0, .int .i64 0, .int .i64 0, .bool false, .bool false, .int .i64 0, .int .i64 0, .int .i64 0] 36)
    simpa using this
  have hL0 := hidS ((((Below.refl w.heap.size w).alloc (Nat.le_refl _) (.cells #[.int .i64 fo.proto, .int .i64 fo.src, .int .i64 fo.sport, .int .i64 fo.dst, .int .i64 fo.dport, .int .i64 fo.kind, .int .i64 fb.proto, .int .i64 fb.src, .int .i64 fb.sport, .int .i64 fb.dst, .int .i64 fb.dport, .int .i64 fb.kind, .int .i64 fs, .bool fn, .bool fu, .int .i64 ft, .int .i64 fc] 29)).alloc (by simp) (.cells #[.int .i64 p.src, .int .i64 p.dst, .int .i64 p.proto, .int .i64 p.a, .int .i64 p.b, .int .i64 p.kind, .int .i64 p.flags, .int .i64 p.seq, .int .i64 p.ack, .string p.body] 38)).alloc (by simp; omega) (.cells #[.int .i64 0, .int .i64 0, .int .i64 0, .int .i64 0, .int .i64 0, .int .i64 0, .int .i64 0, .int .i64 0, .int .i64 0, .int .i64 0, .int .i64 0, .int .i64 0, .int .i64 0, .bool false, .bool false, .int .i64 0, .int .i64 0, .int .i64 0] 36))
  go_enter Try.func36, Try.ntmps36
  go_upto_region 1 with fail
  generalize (((w.alloc (.cells #[.int .i64 fo.proto, .int .i64 fo.src, .int .i64 fo.sport, .int .i64 fo.dst, .int .i64 fo.dport, .int .i64 fo.kind, .int .i64 fb.proto, .int .i64 fb.src, .int .i64 fb.sport, .int .i64 fb.dst, .int .i64 fb.dport, .int .i64 fb.kind, .int .i64 fs, .bool fn, .bool fu, .int .i64 ft, .int .i64 fc] 29)).alloc (.cells #[.int .i64 p.src, .int .i64 p.dst, .int .i64 p.proto, .int .i64 p.a, .int .i64 p.b, .int .i64 p.kind, .int .i64 p.flags, .int .i64 p.seq, .int .i64 p.ack, .string p.body] 38)).alloc (.cells #[.int .i64 0, .int .i64 0, .int .i64 0, .int .i64 0, .int .i64 0, .int .i64 0, .int .i64 0, .int .i64 0, .int .i64 0, .int .i64 0, .int .i64 0, .int .i64 0, .int .i64 0, .bool false, .bool false, .int .i64 0, .int .i64 0, .int .i64 0] 36)) = w0 at hGF0 hGP0 hGR0 hL0 ⊢
  replace h17 := h17.out
  have p6 : (p.proto == 6) = false := beq_eq_false_iff_ne.2 (by omega)
  have p17 : (p.proto == 17) = true := beq_iff_eq.2 h17
  have h6 : ¬ p.proto = 6 := by omega
  clear h17
  have HLED := hidS (led_eq fo fb fs ft fc fn fu p b false true fs p6 p17 (if_neg h6))
  have EN : Hid (¬ (p.proto = 6 ∧ toZ p.proto fs b p.flags < 0)) := fun h => h6 h.1
  clear h6 HS HI10
  have cP0 := blk_cell hGP0.out 0
  have cP1 := blk_cell hGP0.out 1
  have cP2 := blk_cell hGP0.out 2
  have cP3 := blk_cell hGP0.out 3
  have cP4 := blk_cell hGP0.out 4
  have cP5 := blk_cell hGP0.out 5
  have cP6 := blk_cell hGP0.out 6
  have cP7 := blk_cell hGP0.out 7
  have cP8 := blk_cell hGP0.out 8
  have cP9 := blk_cell hGP0.out 9
  simp at cP0 cP1 cP2 cP3 cP4 cP5 cP6 cP7 cP8 cP9
  go_upto_region 6 with fail
  clear cP0 cP1 cP2 cP3 cP4 cP5 cP6 cP7 cP8 cP9
  by_cases hq : fc = 1000000
  · have E := hidS (codeX_full (f := ⟨fo, fb, fs, fn, fu, ft, fc⟩) (p := p) (b := b) EN.out hq)
    have EX := hidS (flowX_no (f := ⟨fo, fb, fs, fn, fu, ft, fc⟩) (p := p) (b := b) now (by rw [E.out]; decide))
    have hq2 : 1000000 ≤ fc := by omega
    clear hq HLED
    have cP0 := blk_cell hGP0.out 0
    have cP1 := blk_cell hGP0.out 1
    have cP2 := blk_cell hGP0.out 2
    have cP3 := blk_cell hGP0.out 3
    have cP4 := blk_cell hGP0.out 4
    have cP5 := blk_cell hGP0.out 5
    have cP6 := blk_cell hGP0.out 6
    have cP7 := blk_cell hGP0.out 7
    have cP8 := blk_cell hGP0.out 8
    have cP9 := blk_cell hGP0.out 9
    simp at cP0 cP1 cP2 cP3 cP4 cP5 cP6 cP7 cP8 cP9
    have cF0 := blk_cell hGF0.out 0
    have cF1 := blk_cell hGF0.out 1
    have cF2 := blk_cell hGF0.out 2
    have cF3 := blk_cell hGF0.out 3
    have cF4 := blk_cell hGF0.out 4
    have cF5 := blk_cell hGF0.out 5
    have cF6 := blk_cell hGF0.out 6
    have cF7 := blk_cell hGF0.out 7
    have cF8 := blk_cell hGF0.out 8
    have cF9 := blk_cell hGF0.out 9
    have cF10 := blk_cell hGF0.out 10
    have cF11 := blk_cell hGF0.out 11
    have cF12 := blk_cell hGF0.out 12
    have cF13 := blk_cell hGF0.out 13
    have cF14 := blk_cell hGF0.out 14
    have cF15 := blk_cell hGF0.out 15
    have cF16 := blk_cell hGF0.out 16
    simp at cF0 cF1 cF2 cF3 cF4 cF5 cF6 cF7 cF8 cF9 cF10 cF11 cF12 cF13 cF14 cF15 cF16
    go_upto_region 7 with fail
    clear cP0 cP1 cP2 cP3 cP4 cP5 cP6 cP7 cP8 cP9 cF0 cF1 cF2 cF3 cF4 cF5 cF6 cF7 cF8 cF9 cF10 cF11 cF12 cF13 cF14 cF15 cF16
    refine plain_into 1 _ [.is (.agg #[.int .i64 0, .int .i64 0, .int .i64 0, .int .i64 0, .int .i64 0, .int .i64 0, .int .i64 0, .int .i64 0, .int .i64 0, .int .i64 0, .int .i64 0, .int .i64 0, .int .i64 0, .bool false, .bool false, .int .i64 0, .int .i64 0, .int .i64 9])] 0 8 28 36 36 (w.heap.size + 2) #[.int .i64 0, .int .i64 0, .int .i64 0, .int .i64 0, .int .i64 0, .int .i64 0, .int .i64 0, .int .i64 0, .int .i64 0, .int .i64 0, .int .i64 0, .int .i64 0, .int .i64 0, .bool false, .bool false, .int .i64 0, .int .i64 0, .int .i64 0] #[.int .i64 0, .int .i64 0, .int .i64 0, .int .i64 0, .int .i64 0, .int .i64 0, .int .i64 0, .int .i64 0, .int .i64 0, .int .i64 0, .int .i64 0, .int .i64 0, .int .i64 0, .bool false, .bool false, .int .i64 0, .int .i64 0, .int .i64 9] rfl rfl rfl (by kernel_rfl) (by kernel_rfl) (by kernel_rfl) rfl rfl (by decide) (by kernel_rfl) (by kernel_rfl) (by decide) hGR0.out (by kernel_rfl) (by kernel_rfl) (by first | kernel_rfl | simp [Value.oneCell']) (by kernel_rfl) ?stepsZ7_24 ?finZ7_24
    case stepsZ7_24 =>
      refine ⟨?_, trivial⟩
      · refine ⟨rfl, fun v W ρ hC kc kf ks ki kd => ?_⟩
        simp [execOp, go_sem, kc, kf]
        exact Calls.mono (HI9.out W) (fun e x h => ⟨_, h.1, hC.trans (h.2.mono hC.size), h.2, rfl⟩)
    intro vZ7_24 WZ7_24 hBZ7_24 hgZ7_24 hall
    simp [upto, Act.put]
    clear hall
    have hEZ7_24 := hidS (hL0.out.trans (hBZ7_24 w.heap.size (by omega)))
    have hcZ7_24 := loadVar_blk (P := Try.prog) hgZ7_24 Try.underlying36 rfl (by kernel_rfl)
    clear hBZ7_24 hgZ7_24 hL0 hGF0 hGP0 hGR0
    go_wp2_with fail
    exact bodyPost_ret (v := .agg #[.int .i64 0, .int .i64 0, .int .i64 0, .int .i64 0, .int .i64 0, .int .i64 0, .int .i64 0, .int .i64 0, .int .i64 0, .int .i64 0, .int .i64 0, .int .i64 0, .int .i64 0, .bool false, .bool false, .int .i64 0, .int .i64 0, .int .i64 9]) (results_cell Try.results36 rfl hcZ7_24) rfl ⟨by rw [EX.out, E.out]; rfl, hEZ7_24.out⟩
  have EC := hidS (codeX_ok (f := ⟨fo, fb, fs, fn, fu, ft, fc⟩) (p := p) (b := b) EN.out hq)
  have hq2 : fc < 1000000 := by omega
  clear hq
  have cP0 := blk_cell hGP0.out 0
  have cP1 := blk_cell hGP0.out 1
  have cP2 := blk_cell hGP0.out 2
  have cP3 := blk_cell hGP0.out 3
  have cP4 := blk_cell hGP0.out 4
  have cP5 := blk_cell hGP0.out 5
  have cP6 := blk_cell hGP0.out 6
  have cP7 := blk_cell hGP0.out 7
  have cP8 := blk_cell hGP0.out 8
  have cP9 := blk_cell hGP0.out 9
  simp at cP0 cP1 cP2 cP3 cP4 cP5 cP6 cP7 cP8 cP9
  have cF0 := blk_cell hGF0.out 0
  have cF1 := blk_cell hGF0.out 1
  have cF2 := blk_cell hGF0.out 2
  have cF3 := blk_cell hGF0.out 3
  have cF4 := blk_cell hGF0.out 4
  have cF5 := blk_cell hGF0.out 5
  have cF6 := blk_cell hGF0.out 6
  have cF7 := blk_cell hGF0.out 7
  have cF8 := blk_cell hGF0.out 8
  have cF9 := blk_cell hGF0.out 9
  have cF10 := blk_cell hGF0.out 10
  have cF11 := blk_cell hGF0.out 11
  have cF12 := blk_cell hGF0.out 12
  have cF13 := blk_cell hGF0.out 13
  have cF14 := blk_cell hGF0.out 14
  have cF15 := blk_cell hGF0.out 15
  have cF16 := blk_cell hGF0.out 16
  simp at cF0 cF1 cF2 cF3 cF4 cF5 cF6 cF7 cF8 cF9 cF10 cF11 cF12 cF13 cF14 cF15 cF16
  go_upto_region 8 with fail
  clear cP0 cP1 cP2 cP3 cP4 cP5 cP6 cP7 cP8 cP9 cF0 cF1 cF2 cF3 cF4 cF5 cF6 cF7 cF8 cF9 cF10 cF11 cF12 cF13 cF14 cF15 cF16
  cases fn
  · cases fu
    · cases b
      · have EX := hidS (flowX_yes now ⟨fo, fb, fs, false, false, ft, fc⟩ EC.out (HLED.out.trans (by simp)))
        have cP0 := blk_cell hGP0.out 0
        have cP1 := blk_cell hGP0.out 1
        have cP2 := blk_cell hGP0.out 2
        have cP3 := blk_cell hGP0.out 3
        have cP4 := blk_cell hGP0.out 4
        have cP5 := blk_cell hGP0.out 5
        have cP6 := blk_cell hGP0.out 6
        have cP7 := blk_cell hGP0.out 7
        have cP8 := blk_cell hGP0.out 8
        have cP9 := blk_cell hGP0.out 9
        simp at cP0 cP1 cP2 cP3 cP4 cP5 cP6 cP7 cP8 cP9
        have cF0 := blk_cell hGF0.out 0
        have cF1 := blk_cell hGF0.out 1
        have cF2 := blk_cell hGF0.out 2
        have cF3 := blk_cell hGF0.out 3
        have cF4 := blk_cell hGF0.out 4
        have cF5 := blk_cell hGF0.out 5
        have cF6 := blk_cell hGF0.out 6
        have cF7 := blk_cell hGF0.out 7
        have cF8 := blk_cell hGF0.out 8
        have cF9 := blk_cell hGF0.out 9
        have cF10 := blk_cell hGF0.out 10
        have cF11 := blk_cell hGF0.out 11
        have cF12 := blk_cell hGF0.out 12
        have cF13 := blk_cell hGF0.out 13
        have cF14 := blk_cell hGF0.out 14
        have cF15 := blk_cell hGF0.out 15
        have cF16 := blk_cell hGF0.out 16
        simp at cF0 cF1 cF2 cF3 cF4 cF5 cF6 cF7 cF8 cF9 cF10 cF11 cF12 cF13 cF14 cF15 cF16
        have kF := blk_cell hGF0.out
        have fF := blk_free hGF0.out
        go_upto_region 10 with fail
        clear cP0 cP1 cP2 cP3 cP4 cP5 cP6 cP7 cP8 cP9 cF0 cF1 cF2 cF3 cF4 cF5 cF6 cF7 cF8 cF9 cF10 cF11 cF12 cF13 cF14 cF15 cF16 kF fF
        have hGF1 : Hid (((w0.setCell ⟨w.heap.size, 13, none⟩ (.bool false)).setCell ⟨w.heap.size, 14, none⟩ (.bool false)).heap[w.heap.size]? = some (.cells #[.int .i64 fo.proto, .int .i64 fo.src, .int .i64 fo.sport, .int .i64 fo.dst, .int .i64 fo.dport, .int .i64 fo.kind, .int .i64 fb.proto, .int .i64 fb.src, .int .i64 fb.sport, .int .i64 fb.dst, .int .i64 fb.dport, .int .i64 fb.kind, .int .i64 fs, .bool false, .bool false, .int .i64 ft, .int .i64 fc] 29)) := by
          have := (blk_set (blk_set hGF0.out 13 (.bool false)) 14 (.bool false))
          exact this
        have hGP1 := hidS (blk_other (B := w.heap.size) (blk_other (B := w.heap.size) hGP0.out (by omega) 13 (.bool false)) (by omega) 14 (.bool false))
        have hGR1 := hidS (blk_other (B := w.heap.size) (blk_other (B := w.heap.size) hGR0.out (by omega) 13 (.bool false)) (by omega) 14 (.bool false))
        have hL1 := hidS (below_at (k := 14) (b := w.heap.size) (v := .bool false) (below_at (k := 13) (b := w.heap.size) (v := .bool false) hL0.out (by omega)) (by omega))
        clear hL0 hGF0 hGP0 hGR0
        generalize ((w0.setCell ⟨w.heap.size, 13, none⟩ (.bool false)).setCell ⟨w.heap.size, 14, none⟩ (.bool false)) = w1 at hGF1 hGP1 hGR1 hL1 ⊢
        go_wp2_with (first | refine wpList_load_blk 29 (.tmp 4) rfl rfl rfl hGF1.out Try.underlying29 rfl (by kernel_rfl) ?_)
        refine (HU.out ⟨fo, fb, fs, false, false, ft, fc⟩ _).mono ?_
        rintro _ w2 ⟨rfl, hb2⟩
        have hGF2 := hidS (blk_later hGF1.out hb2)
        have hGP2 := hidS (blk_later hGP1.out hb2)
        have hGR2 := hidS (blk_later hGR1.out hb2)
        have hL2 := hidS (hL1.out.trans (hb2.mono hL1.out.size))
        clear hb2 hL1 hGF1 hGP1 hGR1
        generalize hTL : tillF ⟨fo, fb, fs, false, false, ft, fc⟩ now = tl at *
        have cF0 := blk_cell hGF2.out 0
        have cF1 := blk_cell hGF2.out 1
        have cF2 := blk_cell hGF2.out 2
        have cF3 := blk_cell hGF2.out 3
        have cF4 := blk_cell hGF2.out 4
        have cF5 := blk_cell hGF2.out 5
        have cF6 := blk_cell hGF2.out 6
        have cF7 := blk_cell hGF2.out 7
        have cF8 := blk_cell hGF2.out 8
        have cF9 := blk_cell hGF2.out 9
        have cF10 := blk_cell hGF2.out 10
        have cF11 := blk_cell hGF2.out 11
        have cF12 := blk_cell hGF2.out 12
        have cF13 := blk_cell hGF2.out 13
        have cF14 := blk_cell hGF2.out 14
        have cF15 := blk_cell hGF2.out 15
        have cF16 := blk_cell hGF2.out 16
        simp at cF0 cF1 cF2 cF3 cF4 cF5 cF6 cF7 cF8 cF9 cF10 cF11 cF12 cF13 cF14 cF15 cF16
        have kF := blk_cell hGF2.out
        have fF := blk_free hGF2.out
        go_upto_region 12 with fail
        clear cF0 cF1 cF2 cF3 cF4 cF5 cF6 cF7 cF8 cF9 cF10 cF11 cF12 cF13 cF14 cF15 cF16 kF fF
        have hGF3 : Hid (((w2.setCell ⟨w.heap.size, 15, none⟩ (.int .i64 tl)).setCell ⟨w.heap.size, 16, none⟩ (.int .i64 (fc + 1))).heap[w.heap.size]? = some (.cells #[.int .i64 fo.proto, .int .i64 fo.src, .int .i64 fo.sport, .int .i64 fo.dst, .int .i64 fo.dport, .int .i64 fo.kind, .int .i64 fb.proto, .int .i64 fb.src, .int .i64 fb.sport, .int .i64 fb.dst, .int .i64 fb.dport, .int .i64 fb.kind, .int .i64 fs, .bool false, .bool false, .int .i64 tl, .int .i64 (fc + 1)] 29)) := by
          have := (blk_set (blk_set hGF2.out 15 (.int .i64 tl)) 16 (.int .i64 (fc + 1)))
          exact this
        have hGP3 := hidS (blk_other (B := w.heap.size) (blk_other (B := w.heap.size) hGP2.out (by omega) 15 (.int .i64 tl)) (by omega) 16 (.int .i64 (fc + 1)))
        have hGR3 := hidS (blk_other (B := w.heap.size) (blk_other (B := w.heap.size) hGR2.out (by omega) 15 (.int .i64 tl)) (by omega) 16 (.int .i64 (fc + 1)))
        have hL3 := hidS (below_at (k := 16) (b := w.heap.size) (v := .int .i64 (fc + 1)) (below_at (k := 15) (b := w.heap.size) (v := .int .i64 tl) hL2.out (by omega)) (by omega))
        clear hL2 hGF2 hGP2 hGR2
        generalize ((w2.setCell ⟨w.heap.size, 15, none⟩ (.int .i64 tl)).setCell ⟨w.heap.size, 16, none⟩ (.int .i64 (fc + 1))) = w3 at hGF3 hGP3 hGR3 hL3 ⊢
        refine plain_into 2 _ [.is (.agg #[.int .i64 fo.proto, .int .i64 fo.src, .int .i64 fo.sport, .int .i64 fo.dst, .int .i64 fo.dport, .int .i64 fo.kind, .int .i64 fb.proto, .int .i64 fb.src, .int .i64 fb.sport, .int .i64 fb.dst, .int .i64 fb.dport, .int .i64 fb.kind, .int .i64 fs, .bool false, .bool false, .int .i64 tl, .int .i64 (fc + 1)]), .is (.agg #[.int .i64 fo.proto, .int .i64 fo.src, .int .i64 fo.sport, .int .i64 fo.dst, .int .i64 fo.dport, .int .i64 fo.kind, .int .i64 fb.proto, .int .i64 fb.src, .int .i64 fb.sport, .int .i64 fb.dst, .int .i64 fb.dport, .int .i64 fb.kind, .int .i64 fs, .bool false, .bool false, .int .i64 tl, .int .i64 (fc + 1), .int .i64 0])] 1 8 74 36 36 (w.heap.size + 2) #[.int .i64 0, .int .i64 0, .int .i64 0, .int .i64 0, .int .i64 0, .int .i64 0, .int .i64 0, .int .i64 0, .int .i64 0, .int .i64 0, .int .i64 0, .int .i64 0, .int .i64 0, .bool false, .bool false, .int .i64 0, .int .i64 0, .int .i64 0] #[.int .i64 fo.proto, .int .i64 fo.src, .int .i64 fo.sport, .int .i64 fo.dst, .int .i64 fo.dport, .int .i64 fo.kind, .int .i64 fb.proto, .int .i64 fb.src, .int .i64 fb.sport, .int .i64 fb.dst, .int .i64 fb.dport, .int .i64 fb.kind, .int .i64 fs, .bool false, .bool false, .int .i64 tl, .int .i64 (fc + 1), .int .i64 0] rfl rfl rfl (by kernel_rfl) (by kernel_rfl) (by kernel_rfl) rfl rfl (by decide) (by kernel_rfl) (by kernel_rfl) (by decide) hGR3.out (by kernel_rfl) (by kernel_rfl) (by first | kernel_rfl | simp [Value.oneCell']) (by kernel_rfl) ?stepsY_25 ?finY_25
        case stepsY_25 =>
          refine ⟨?_, ?_, trivial⟩
          · refine ⟨rfl, fun v W ρ hC kc kf ks ki kd => ?_⟩
            have t4 : ρ (.tmp 4) = .pointer (some ⟨w.heap.size, 0, none⟩) := ki 4 (by decide)
            simp only [execOp, t4, Sem.run_bind, loadAt_part (o := 0) [.int .i64 fo.proto, .int .i64 fo.src, .int .i64 fo.sport, .int .i64 fo.dst, .int .i64 fo.dport, .int .i64 fo.kind, .int .i64 fb.proto, .int .i64 fb.src, .int .i64 fb.sport, .int .i64 fb.dst, .int .i64 fb.dport, .int .i64 fb.kind, .int .i64 fs, .bool false, .bool false, .int .i64 tl, .int .i64 (fc + 1)] (blk_later hGF3.out hC) rfl Try.underlying29 rfl (by kernel_rfl), Result.andThen_ok, Sem.run_pure]
            exact ⟨hC, Below.refl _ _, rfl⟩
          · refine ⟨rfl, fun v W ρ hC kc kf ks ki kd => ?_⟩
            have d0 : v 0 = .agg #[.int .i64 fo.proto, .int .i64 fo.src, .int .i64 fo.sport, .int .i64 fo.dst, .int .i64 fo.dport, .int .i64 fo.kind, .int .i64 fb.proto, .int .i64 fb.src, .int .i64 fb.sport, .int .i64 fb.dst, .int .i64 fb.dport, .int .i64 fb.kind, .int .i64 fs, .bool false, .bool false, .int .i64 tl, .int .i64 (fc + 1)] := by first | exact kd _ (mem0 rfl) rfl | exact kd _ (mem1 rfl) rfl | exact kd _ (mem2 rfl) rfl | exact kd _ (mem3 rfl) rfl | exact kd _ (mem4 rfl) rfl | exact kd _ (mem5 rfl) rfl | exact kd _ (Array.mem_of_getElem? (i := 6) rfl) rfl | exact kd _ (Array.mem_of_getElem? (i := 7) rfl) rfl
            have t73 : ρ (.tmp 73) = .agg #[.int .i64 fo.proto, .int .i64 fo.src, .int .i64 fo.sport, .int .i64 fo.dst, .int .i64 fo.dport, .int .i64 fo.kind, .int .i64 fb.proto, .int .i64 fb.src, .int .i64 fb.sport, .int .i64 fb.dst, .int .i64 fb.dport, .int .i64 fb.kind, .int .i64 fs, .bool false, .bool false, .int .i64 tl, .int .i64 (fc + 1)] := (ks 0 73 (by decide) rfl).trans d0
            simp [execOp, go_sem, kc, t73]
            exact ⟨hC, Below.refl _ _, rfl⟩
        intro vY_25 WY_25 hBY_25 hgY_25 hall
        simp [upto, Act.put]
        clear hall
        have hEY_25 := hidS (hL3.out.trans (hBY_25 w.heap.size (by omega)))
        have hcY_25 := loadVar_blk (P := Try.prog) hgY_25 Try.underlying36 rfl (by kernel_rfl)
        clear hBY_25 hgY_25 hL3 hGF3 hGP3 hGR3
        go_wp2_with fail
        exact bodyPost_ret (v := .agg #[.int .i64 fo.proto, .int .i64 fo.src, .int .i64 fo.sport, .int .i64 fo.dst, .int .i64 fo.dport, .int .i64 fo.kind, .int .i64 fb.proto, .int .i64 fb.src, .int .i64 fb.sport, .int .i64 fb.dst, .int .i64 fb.dport, .int .i64 fb.kind, .int .i64 fs, .bool false, .bool false, .int .i64 tl, .int .i64 (fc + 1), .int .i64 0]) (results_cell Try.results36 rfl hcY_25) rfl ⟨by rw [EX.out, EC.out] ; first | done | rfl, hEY_25.out⟩
      · have EX := hidS (flowX_yes now ⟨fo, fb, fs, true, false, ft, fc⟩ EC.out (HLED.out.trans (by simp)))
        have cP0 := blk_cell hGP0.out 0
        have cP1 := blk_cell hGP0.out 1
        have cP2 := blk_cell hGP0.out 2
        have cP3 := blk_cell hGP0.out 3
        have cP4 := blk_cell hGP0.out 4
        have cP5 := blk_cell hGP0.out 5
        have cP6 := blk_cell hGP0.out 6
        have cP7 := blk_cell hGP0.out 7
        have cP8 := blk_cell hGP0.out 8
        have cP9 := blk_cell hGP0.out 9
        simp at cP0 cP1 cP2 cP3 cP4 cP5 cP6 cP7 cP8 cP9
        have cF0 := blk_cell hGF0.out 0
        have cF1 := blk_cell hGF0.out 1
        have cF2 := blk_cell hGF0.out 2
        have cF3 := blk_cell hGF0.out 3
        have cF4 := blk_cell hGF0.out 4
        have cF5 := blk_cell hGF0.out 5
        have cF6 := blk_cell hGF0.out 6
        have cF7 := blk_cell hGF0.out 7
        have cF8 := blk_cell hGF0.out 8
        have cF9 := blk_cell hGF0.out 9
        have cF10 := blk_cell hGF0.out 10
        have cF11 := blk_cell hGF0.out 11
        have cF12 := blk_cell hGF0.out 12
        have cF13 := blk_cell hGF0.out 13
        have cF14 := blk_cell hGF0.out 14
        have cF15 := blk_cell hGF0.out 15
        have cF16 := blk_cell hGF0.out 16
        simp at cF0 cF1 cF2 cF3 cF4 cF5 cF6 cF7 cF8 cF9 cF10 cF11 cF12 cF13 cF14 cF15 cF16
        have kF := blk_cell hGF0.out
        have fF := blk_free hGF0.out
        go_upto_region 10 with fail
        clear cP0 cP1 cP2 cP3 cP4 cP5 cP6 cP7 cP8 cP9 cF0 cF1 cF2 cF3 cF4 cF5 cF6 cF7 cF8 cF9 cF10 cF11 cF12 cF13 cF14 cF15 cF16 kF fF
        have hGF1 : Hid (((w0.setCell ⟨w.heap.size, 13, none⟩ (.bool true)).setCell ⟨w.heap.size, 14, none⟩ (.bool false)).heap[w.heap.size]? = some (.cells #[.int .i64 fo.proto, .int .i64 fo.src, .int .i64 fo.sport, .int .i64 fo.dst, .int .i64 fo.dport, .int .i64 fo.kind, .int .i64 fb.proto, .int .i64 fb.src, .int .i64 fb.sport, .int .i64 fb.dst, .int .i64 fb.dport, .int .i64 fb.kind, .int .i64 fs, .bool true, .bool false, .int .i64 ft, .int .i64 fc] 29)) := by
          have := (blk_set (blk_set hGF0.out 13 (.bool true)) 14 (.bool false))
          exact this
        have hGP1 := hidS (blk_other (B := w.heap.size) (blk_other (B := w.heap.size) hGP0.out (by omega) 13 (.bool true)) (by omega) 14 (.bool false))
        have hGR1 := hidS (blk_other (B := w.heap.size) (blk_other (B := w.heap.size) hGR0.out (by omega) 13 (.bool true)) (by omega) 14 (.bool false))
        have hL1 := hidS (below_at (k := 14) (b := w.heap.size) (v := .bool false) (below_at (k := 13) (b := w.heap.size) (v := .bool true) hL0.out (by omega)) (by omega))
        clear hL0 hGF0 hGP0 hGR0
        generalize ((w0.setCell ⟨w.heap.size, 13, none⟩ (.bool true)).setCell ⟨w.heap.size, 14, none⟩ (.bool false)) = w1 at hGF1 hGP1 hGR1 hL1 ⊢
        go_wp2_with (first | refine wpList_load_blk 29 (.tmp 4) rfl rfl rfl hGF1.out Try.underlying29 rfl (by kernel_rfl) ?_)
        refine (HU.out ⟨fo, fb, fs, true, false, ft, fc⟩ _).mono ?_
        rintro _ w2 ⟨rfl, hb2⟩
        have hGF2 := hidS (blk_later hGF1.out hb2)
        have hGP2 := hidS (blk_later hGP1.out hb2)
        have hGR2 := hidS (blk_later hGR1.out hb2)
        have hL2 := hidS (hL1.out.trans (hb2.mono hL1.out.size))
        clear hb2 hL1 hGF1 hGP1 hGR1
        generalize hTL : tillF ⟨fo, fb, fs, true, false, ft, fc⟩ now = tl at *
        have cF0 := blk_cell hGF2.out 0
        have cF1 := blk_cell hGF2.out 1
        have cF2 := blk_cell hGF2.out 2
        have cF3 := blk_cell hGF2.out 3
        have cF4 := blk_cell hGF2.out 4
        have cF5 := blk_cell hGF2.out 5
        have cF6 := blk_cell hGF2.out 6
        have cF7 := blk_cell hGF2.out 7
        have cF8 := blk_cell hGF2.out 8
        have cF9 := blk_cell hGF2.out 9
        have cF10 := blk_cell hGF2.out 10
        have cF11 := blk_cell hGF2.out 11
        have cF12 := blk_cell hGF2.out 12
        have cF13 := blk_cell hGF2.out 13
        have cF14 := blk_cell hGF2.out 14
        have cF15 := blk_cell hGF2.out 15
        have cF16 := blk_cell hGF2.out 16
        simp at cF0 cF1 cF2 cF3 cF4 cF5 cF6 cF7 cF8 cF9 cF10 cF11 cF12 cF13 cF14 cF15 cF16
        have kF := blk_cell hGF2.out
        have fF := blk_free hGF2.out
        go_upto_region 12 with fail
        clear cF0 cF1 cF2 cF3 cF4 cF5 cF6 cF7 cF8 cF9 cF10 cF11 cF12 cF13 cF14 cF15 cF16 kF fF
        have hGF3 : Hid (((w2.setCell ⟨w.heap.size, 15, none⟩ (.int .i64 tl)).setCell ⟨w.heap.size, 16, none⟩ (.int .i64 (fc + 1))).heap[w.heap.size]? = some (.cells #[.int .i64 fo.proto, .int .i64 fo.src, .int .i64 fo.sport, .int .i64 fo.dst, .int .i64 fo.dport, .int .i64 fo.kind, .int .i64 fb.proto, .int .i64 fb.src, .int .i64 fb.sport, .int .i64 fb.dst, .int .i64 fb.dport, .int .i64 fb.kind, .int .i64 fs, .bool true, .bool false, .int .i64 tl, .int .i64 (fc + 1)] 29)) := by
          have := (blk_set (blk_set hGF2.out 15 (.int .i64 tl)) 16 (.int .i64 (fc + 1)))
          exact this
        have hGP3 := hidS (blk_other (B := w.heap.size) (blk_other (B := w.heap.size) hGP2.out (by omega) 15 (.int .i64 tl)) (by omega) 16 (.int .i64 (fc + 1)))
        have hGR3 := hidS (blk_other (B := w.heap.size) (blk_other (B := w.heap.size) hGR2.out (by omega) 15 (.int .i64 tl)) (by omega) 16 (.int .i64 (fc + 1)))
        have hL3 := hidS (below_at (k := 16) (b := w.heap.size) (v := .int .i64 (fc + 1)) (below_at (k := 15) (b := w.heap.size) (v := .int .i64 tl) hL2.out (by omega)) (by omega))
        clear hL2 hGF2 hGP2 hGR2
        generalize ((w2.setCell ⟨w.heap.size, 15, none⟩ (.int .i64 tl)).setCell ⟨w.heap.size, 16, none⟩ (.int .i64 (fc + 1))) = w3 at hGF3 hGP3 hGR3 hL3 ⊢
        refine plain_into 2 _ [.is (.agg #[.int .i64 fo.proto, .int .i64 fo.src, .int .i64 fo.sport, .int .i64 fo.dst, .int .i64 fo.dport, .int .i64 fo.kind, .int .i64 fb.proto, .int .i64 fb.src, .int .i64 fb.sport, .int .i64 fb.dst, .int .i64 fb.dport, .int .i64 fb.kind, .int .i64 fs, .bool true, .bool false, .int .i64 tl, .int .i64 (fc + 1)]), .is (.agg #[.int .i64 fo.proto, .int .i64 fo.src, .int .i64 fo.sport, .int .i64 fo.dst, .int .i64 fo.dport, .int .i64 fo.kind, .int .i64 fb.proto, .int .i64 fb.src, .int .i64 fb.sport, .int .i64 fb.dst, .int .i64 fb.dport, .int .i64 fb.kind, .int .i64 fs, .bool true, .bool false, .int .i64 tl, .int .i64 (fc + 1), .int .i64 0])] 1 8 74 36 36 (w.heap.size + 2) #[.int .i64 0, .int .i64 0, .int .i64 0, .int .i64 0, .int .i64 0, .int .i64 0, .int .i64 0, .int .i64 0, .int .i64 0, .int .i64 0, .int .i64 0, .int .i64 0, .int .i64 0, .bool false, .bool false, .int .i64 0, .int .i64 0, .int .i64 0] #[.int .i64 fo.proto, .int .i64 fo.src, .int .i64 fo.sport, .int .i64 fo.dst, .int .i64 fo.dport, .int .i64 fo.kind, .int .i64 fb.proto, .int .i64 fb.src, .int .i64 fb.sport, .int .i64 fb.dst, .int .i64 fb.dport, .int .i64 fb.kind, .int .i64 fs, .bool true, .bool false, .int .i64 tl, .int .i64 (fc + 1), .int .i64 0] rfl rfl rfl (by kernel_rfl) (by kernel_rfl) (by kernel_rfl) rfl rfl (by decide) (by kernel_rfl) (by kernel_rfl) (by decide) hGR3.out (by kernel_rfl) (by kernel_rfl) (by first | kernel_rfl | simp [Value.oneCell']) (by kernel_rfl) ?stepsY_26 ?finY_26
        case stepsY_26 =>
          refine ⟨?_, ?_, trivial⟩
          · refine ⟨rfl, fun v W ρ hC kc kf ks ki kd => ?_⟩
            have t4 : ρ (.tmp 4) = .pointer (some ⟨w.heap.size, 0, none⟩) := ki 4 (by decide)
            simp only [execOp, t4, Sem.run_bind, loadAt_part (o := 0) [.int .i64 fo.proto, .int .i64 fo.src, .int .i64 fo.sport, .int .i64 fo.dst, .int .i64 fo.dport, .int .i64 fo.kind, .int .i64 fb.proto, .int .i64 fb.src, .int .i64 fb.sport, .int .i64 fb.dst, .int .i64 fb.dport, .int .i64 fb.kind, .int .i64 fs, .bool true, .bool false, .int .i64 tl, .int .i64 (fc + 1)] (blk_later hGF3.out hC) rfl Try.underlying29 rfl (by kernel_rfl), Result.andThen_ok, Sem.run_pure]
            exact ⟨hC, Below.refl _ _, rfl⟩
          · refine ⟨rfl, fun v W ρ hC kc kf ks ki kd => ?_⟩
            have d0 : v 0 = .agg #[.int .i64 fo.proto, .int .i64 fo.src, .int .i64 fo.sport, .int .i64 fo.dst, .int .i64 fo.dport, .int .i64 fo.kind, .int .i64 fb.proto, .int .i64 fb.src, .int .i64 fb.sport, .int .i64 fb.dst, .int .i64 fb.dport, .int .i64 fb.kind, .int .i64 fs, .bool true, .bool false, .int .i64 tl, .int .i64 (fc + 1)] := by first | exact kd _ (mem0 rfl) rfl | exact kd _ (mem1 rfl) rfl | exact kd _ (mem2 rfl) rfl | exact kd _ (mem3 rfl) rfl | exact kd _ (mem4 rfl) rfl | exact kd _ (mem5 rfl) rfl | exact kd _ (Array.mem_of_getElem? (i := 6) rfl) rfl | exact kd _ (Array.mem_of_getElem? (i := 7) rfl) rfl
            have t73 : ρ (.tmp 73) = .agg #[.int .i64 fo.proto, .int .i64 fo.src, .int .i64 fo.sport, .int .i64 fo.dst, .int .i64 fo.dport, .int .i64 fo.kind, .int .i64 fb.proto, .int .i64 fb.src, .int .i64 fb.sport, .int .i64 fb.dst, .int .i64 fb.dport, .int .i64 fb.kind, .int .i64 fs, .bool true, .bool false, .int .i64 tl, .int .i64 (fc + 1)] := (ks 0 73 (by decide) rfl).trans d0
            simp [execOp, go_sem, kc, t73]
            exact ⟨hC, Below.refl _ _, rfl⟩
        intro vY_26 WY_26 hBY_26 hgY_26 hall
        simp [upto, Act.put]
        clear hall
        have hEY_26 := hidS (hL3.out.trans (hBY_26 w.heap.size (by omega)))
        have hcY_26 := loadVar_blk (P := Try.prog) hgY_26 Try.underlying36 rfl (by kernel_rfl)
        clear hBY_26 hgY_26 hL3 hGF3 hGP3 hGR3
        go_wp2_with fail
        exact bodyPost_ret (v := .agg #[.int .i64 fo.proto, .int .i64 fo.src, .int .i64 fo.sport, .int .i64 fo.dst, .int .i64 fo.dport, .int .i64 fo.kind, .int .i64 fb.proto, .int .i64 fb.src, .int .i64 fb.sport, .int .i64 fb.dst, .int .i64 fb.dport, .int .i64 fb.kind, .int .i64 fs, .bool true, .bool false, .int .i64 tl, .int .i64 (fc + 1), .int .i64 0]) (results_cell Try.results36 rfl hcY_26) rfl ⟨by rw [EX.out, EC.out] ; first | done | rfl, hEY_26.out⟩
    · have EX := hidS (flowX_yes now ⟨fo, fb, fs, b, true, ft, fc⟩ EC.out (HLED.out.trans (by simp)))
      have cP0 := blk_cell hGP0.out 0
      have cP1 := blk_cell hGP0.out 1
      have cP2 := blk_cell hGP0.out 2
      have cP3 := blk_cell hGP0.out 3
      have cP4 := blk_cell hGP0.out 4
      have cP5 := blk_cell hGP0.out 5
      have cP6 := blk_cell hGP0.out 6
      have cP7 := blk_cell hGP0.out 7
      have cP8 := blk_cell hGP0.out 8
      have cP9 := blk_cell hGP0.out 9
      simp at cP0 cP1 cP2 cP3 cP4 cP5 cP6 cP7 cP8 cP9
      have cF0 := blk_cell hGF0.out 0
      have cF1 := blk_cell hGF0.out 1
      have cF2 := blk_cell hGF0.out 2
      have cF3 := blk_cell hGF0.out 3
      have cF4 := blk_cell hGF0.out 4
      have cF5 := blk_cell hGF0.out 5
      have cF6 := blk_cell hGF0.out 6
      have cF7 := blk_cell hGF0.out 7
      have cF8 := blk_cell hGF0.out 8
      have cF9 := blk_cell hGF0.out 9
      have cF10 := blk_cell hGF0.out 10
      have cF11 := blk_cell hGF0.out 11
      have cF12 := blk_cell hGF0.out 12
      have cF13 := blk_cell hGF0.out 13
      have cF14 := blk_cell hGF0.out 14
      have cF15 := blk_cell hGF0.out 15
      have cF16 := blk_cell hGF0.out 16
      simp at cF0 cF1 cF2 cF3 cF4 cF5 cF6 cF7 cF8 cF9 cF10 cF11 cF12 cF13 cF14 cF15 cF16
      have kF := blk_cell hGF0.out
      have fF := blk_free hGF0.out
      go_upto_region 10 with fail
      clear cP0 cP1 cP2 cP3 cP4 cP5 cP6 cP7 cP8 cP9 cF0 cF1 cF2 cF3 cF4 cF5 cF6 cF7 cF8 cF9 cF10 cF11 cF12 cF13 cF14 cF15 cF16 kF fF
      have hGF1 : Hid (((w0.setCell ⟨w.heap.size, 13, none⟩ (.bool b)).setCell ⟨w.heap.size, 14, none⟩ (.bool true)).heap[w.heap.size]? = some (.cells #[.int .i64 fo.proto, .int .i64 fo.src, .int .i64 fo.sport, .int .i64 fo.dst, .int .i64 fo.dport, .int .i64 fo.kind, .int .i64 fb.proto, .int .i64 fb.src, .int .i64 fb.sport, .int .i64 fb.dst, .int .i64 fb.dport, .int .i64 fb.kind, .int .i64 fs, .bool b, .bool true, .int .i64 ft, .int .i64 fc] 29)) := by
        have := (blk_set (blk_set hGF0.out 13 (.bool b)) 14 (.bool true))
        exact this
      have hGP1 := hidS (blk_other (B := w.heap.size) (blk_other (B := w.heap.size) hGP0.out (by omega) 13 (.bool b)) (by omega) 14 (.bool true))
      have hGR1 := hidS (blk_other (B := w.heap.size) (blk_other (B := w.heap.size) hGR0.out (by omega) 13 (.bool b)) (by omega) 14 (.bool true))
      have hL1 := hidS (below_at (k := 14) (b := w.heap.size) (v := .bool true) (below_at (k := 13) (b := w.heap.size) (v := .bool b) hL0.out (by omega)) (by omega))
      clear hL0 hGF0 hGP0 hGR0
      generalize ((w0.setCell ⟨w.heap.size, 13, none⟩ (.bool b)).setCell ⟨w.heap.size, 14, none⟩ (.bool true)) = w1 at hGF1 hGP1 hGR1 hL1 ⊢
      go_wp2_with (first | refine wpList_load_blk 29 (.tmp 4) rfl rfl rfl hGF1.out Try.underlying29 rfl (by kernel_rfl) ?_)
      refine (HU.out ⟨fo, fb, fs, b, true, ft, fc⟩ _).mono ?_
      rintro _ w2 ⟨rfl, hb2⟩
      have hGF2 := hidS (blk_later hGF1.out hb2)
      have hGP2 := hidS (blk_later hGP1.out hb2)
      have hGR2 := hidS (blk_later hGR1.out hb2)
      have hL2 := hidS (hL1.out.trans (hb2.mono hL1.out.size))
      clear hb2 hL1 hGF1 hGP1 hGR1
      generalize hTL : tillF ⟨fo, fb, fs, b, true, ft, fc⟩ now = tl at *
      have cF0 := blk_cell hGF2.out 0
      have cF1 := blk_cell hGF2.out 1
      have cF2 := blk_cell hGF2.out 2
      have cF3 := blk_cell hGF2.out 3
      have cF4 := blk_cell hGF2.out 4
      have cF5 := blk_cell hGF2.out 5
      have cF6 := blk_cell hGF2.out 6
      have cF7 := blk_cell hGF2.out 7
      have cF8 := blk_cell hGF2.out 8
      have cF9 := blk_cell hGF2.out 9
      have cF10 := blk_cell hGF2.out 10
      have cF11 := blk_cell hGF2.out 11
      have cF12 := blk_cell hGF2.out 12
      have cF13 := blk_cell hGF2.out 13
      have cF14 := blk_cell hGF2.out 14
      have cF15 := blk_cell hGF2.out 15
      have cF16 := blk_cell hGF2.out 16
      simp at cF0 cF1 cF2 cF3 cF4 cF5 cF6 cF7 cF8 cF9 cF10 cF11 cF12 cF13 cF14 cF15 cF16
      have kF := blk_cell hGF2.out
      have fF := blk_free hGF2.out
      go_upto_region 12 with fail
      clear cF0 cF1 cF2 cF3 cF4 cF5 cF6 cF7 cF8 cF9 cF10 cF11 cF12 cF13 cF14 cF15 cF16 kF fF
      have hGF3 : Hid (((w2.setCell ⟨w.heap.size, 15, none⟩ (.int .i64 tl)).setCell ⟨w.heap.size, 16, none⟩ (.int .i64 (fc + 1))).heap[w.heap.size]? = some (.cells #[.int .i64 fo.proto, .int .i64 fo.src, .int .i64 fo.sport, .int .i64 fo.dst, .int .i64 fo.dport, .int .i64 fo.kind, .int .i64 fb.proto, .int .i64 fb.src, .int .i64 fb.sport, .int .i64 fb.dst, .int .i64 fb.dport, .int .i64 fb.kind, .int .i64 fs, .bool b, .bool true, .int .i64 tl, .int .i64 (fc + 1)] 29)) := by
        have := (blk_set (blk_set hGF2.out 15 (.int .i64 tl)) 16 (.int .i64 (fc + 1)))
        exact this
      have hGP3 := hidS (blk_other (B := w.heap.size) (blk_other (B := w.heap.size) hGP2.out (by omega) 15 (.int .i64 tl)) (by omega) 16 (.int .i64 (fc + 1)))
      have hGR3 := hidS (blk_other (B := w.heap.size) (blk_other (B := w.heap.size) hGR2.out (by omega) 15 (.int .i64 tl)) (by omega) 16 (.int .i64 (fc + 1)))
      have hL3 := hidS (below_at (k := 16) (b := w.heap.size) (v := .int .i64 (fc + 1)) (below_at (k := 15) (b := w.heap.size) (v := .int .i64 tl) hL2.out (by omega)) (by omega))
      clear hL2 hGF2 hGP2 hGR2
      generalize ((w2.setCell ⟨w.heap.size, 15, none⟩ (.int .i64 tl)).setCell ⟨w.heap.size, 16, none⟩ (.int .i64 (fc + 1))) = w3 at hGF3 hGP3 hGR3 hL3 ⊢
      refine plain_into 2 _ [.is (.agg #[.int .i64 fo.proto, .int .i64 fo.src, .int .i64 fo.sport, .int .i64 fo.dst, .int .i64 fo.dport, .int .i64 fo.kind, .int .i64 fb.proto, .int .i64 fb.src, .int .i64 fb.sport, .int .i64 fb.dst, .int .i64 fb.dport, .int .i64 fb.kind, .int .i64 fs, .bool b, .bool true, .int .i64 tl, .int .i64 (fc + 1)]), .is (.agg #[.int .i64 fo.proto, .int .i64 fo.src, .int .i64 fo.sport, .int .i64 fo.dst, .int .i64 fo.dport, .int .i64 fo.kind, .int .i64 fb.proto, .int .i64 fb.src, .int .i64 fb.sport, .int .i64 fb.dst, .int .i64 fb.dport, .int .i64 fb.kind, .int .i64 fs, .bool b, .bool true, .int .i64 tl, .int .i64 (fc + 1), .int .i64 0])] 1 8 74 36 36 (w.heap.size + 2) #[.int .i64 0, .int .i64 0, .int .i64 0, .int .i64 0, .int .i64 0, .int .i64 0, .int .i64 0, .int .i64 0, .int .i64 0, .int .i64 0, .int .i64 0, .int .i64 0, .int .i64 0, .bool false, .bool false, .int .i64 0, .int .i64 0, .int .i64 0] #[.int .i64 fo.proto, .int .i64 fo.src, .int .i64 fo.sport, .int .i64 fo.dst, .int .i64 fo.dport, .int .i64 fo.kind, .int .i64 fb.proto, .int .i64 fb.src, .int .i64 fb.sport, .int .i64 fb.dst, .int .i64 fb.dport, .int .i64 fb.kind, .int .i64 fs, .bool b, .bool true, .int .i64 tl, .int .i64 (fc + 1), .int .i64 0] rfl rfl rfl (by kernel_rfl) (by kernel_rfl) (by kernel_rfl) rfl rfl (by decide) (by kernel_rfl) (by kernel_rfl) (by decide) hGR3.out (by kernel_rfl) (by kernel_rfl) (by first | kernel_rfl | simp [Value.oneCell']) (by kernel_rfl) ?stepsY_27 ?finY_27
      case stepsY_27 =>
        refine ⟨?_, ?_, trivial⟩
        · refine ⟨rfl, fun v W ρ hC kc kf ks ki kd => ?_⟩
          have t4 : ρ (.tmp 4) = .pointer (some ⟨w.heap.size, 0, none⟩) := ki 4 (by decide)
          simp only [execOp, t4, Sem.run_bind, loadAt_part (o := 0) [.int .i64 fo.proto, .int .i64 fo.src, .int .i64 fo.sport, .int .i64 fo.dst, .int .i64 fo.dport, .int .i64 fo.kind, .int .i64 fb.proto, .int .i64 fb.src, .int .i64 fb.sport, .int .i64 fb.dst, .int .i64 fb.dport, .int .i64 fb.kind, .int .i64 fs, .bool b, .bool true, .int .i64 tl, .int .i64 (fc + 1)] (blk_later hGF3.out hC) rfl Try.underlying29 rfl (by kernel_rfl), Result.andThen_ok, Sem.run_pure]
          exact ⟨hC, Below.refl _ _, rfl⟩
        · refine ⟨rfl, fun v W ρ hC kc kf ks ki kd => ?_⟩
          have d0 : v 0 = .agg #[.int .i64 fo.proto, .int .i64 fo.src, .int .i64 fo.sport, .int .i64 fo.dst, .int .i64 fo.dport, .int .i64 fo.kind, .int .i64 fb.proto, .int .i64 fb.src, .int .i64 fb.sport, .int .i64 fb.dst, .int .i64 fb.dport, .int .i64 fb.kind, .int .i64 fs, .bool b, .bool true, .int .i64 tl, .int .i64 (fc + 1)] := by first | exact kd _ (mem0 rfl) rfl | exact kd _ (mem1 rfl) rfl | exact kd _ (mem2 rfl) rfl | exact kd _ (mem3 rfl) rfl | exact kd _ (mem4 rfl) rfl | exact kd _ (mem5 rfl) rfl | exact kd _ (Array.mem_of_getElem? (i := 6) rfl) rfl | exact kd _ (Array.mem_of_getElem? (i := 7) rfl) rfl
          have t73 : ρ (.tmp 73) = .agg #[.int .i64 fo.proto, .int .i64 fo.src, .int .i64 fo.sport, .int .i64 fo.dst, .int .i64 fo.dport, .int .i64 fo.kind, .int .i64 fb.proto, .int .i64 fb.src, .int .i64 fb.sport, .int .i64 fb.dst, .int .i64 fb.dport, .int .i64 fb.kind, .int .i64 fs, .bool b, .bool true, .int .i64 tl, .int .i64 (fc + 1)] := (ks 0 73 (by decide) rfl).trans d0
          simp [execOp, go_sem, kc, t73]
          exact ⟨hC, Below.refl _ _, rfl⟩
      intro vY_27 WY_27 hBY_27 hgY_27 hall
      simp [upto, Act.put]
      clear hall
      have hEY_27 := hidS (hL3.out.trans (hBY_27 w.heap.size (by omega)))
      have hcY_27 := loadVar_blk (P := Try.prog) hgY_27 Try.underlying36 rfl (by kernel_rfl)
      clear hBY_27 hgY_27 hL3 hGF3 hGP3 hGR3
      go_wp2_with fail
      exact bodyPost_ret (v := .agg #[.int .i64 fo.proto, .int .i64 fo.src, .int .i64 fo.sport, .int .i64 fo.dst, .int .i64 fo.dport, .int .i64 fo.kind, .int .i64 fb.proto, .int .i64 fb.src, .int .i64 fb.sport, .int .i64 fb.dst, .int .i64 fb.dport, .int .i64 fb.kind, .int .i64 fs, .bool b, .bool true, .int .i64 tl, .int .i64 (fc + 1), .int .i64 0]) (results_cell Try.results36 rfl hcY_27) rfl ⟨by rw [EX.out, EC.out] ; first | done | rfl, hEY_27.out⟩
  · cases fu
    · cases b
      · have EX := hidS (flowX_yes now ⟨fo, fb, fs, true, true, ft, fc⟩ EC.out (HLED.out.trans (by simp)))
        have cP0 := blk_cell hGP0.out 0
        have cP1 := blk_cell hGP0.out 1
        have cP2 := blk_cell hGP0.out 2
        have cP3 := blk_cell hGP0.out 3
        have cP4 := blk_cell hGP0.out 4
        have cP5 := blk_cell hGP0.out 5
        have cP6 := blk_cell hGP0.out 6
        have cP7 := blk_cell hGP0.out 7
        have cP8 := blk_cell hGP0.out 8
        have cP9 := blk_cell hGP0.out 9
        simp at cP0 cP1 cP2 cP3 cP4 cP5 cP6 cP7 cP8 cP9
        have cF0 := blk_cell hGF0.out 0
        have cF1 := blk_cell hGF0.out 1
        have cF2 := blk_cell hGF0.out 2
        have cF3 := blk_cell hGF0.out 3
        have cF4 := blk_cell hGF0.out 4
        have cF5 := blk_cell hGF0.out 5
        have cF6 := blk_cell hGF0.out 6
        have cF7 := blk_cell hGF0.out 7
        have cF8 := blk_cell hGF0.out 8
        have cF9 := blk_cell hGF0.out 9
        have cF10 := blk_cell hGF0.out 10
        have cF11 := blk_cell hGF0.out 11
        have cF12 := blk_cell hGF0.out 12
        have cF13 := blk_cell hGF0.out 13
        have cF14 := blk_cell hGF0.out 14
        have cF15 := blk_cell hGF0.out 15
        have cF16 := blk_cell hGF0.out 16
        simp at cF0 cF1 cF2 cF3 cF4 cF5 cF6 cF7 cF8 cF9 cF10 cF11 cF12 cF13 cF14 cF15 cF16
        have kF := blk_cell hGF0.out
        have fF := blk_free hGF0.out
        go_upto_region 10 with fail
        clear cP0 cP1 cP2 cP3 cP4 cP5 cP6 cP7 cP8 cP9 cF0 cF1 cF2 cF3 cF4 cF5 cF6 cF7 cF8 cF9 cF10 cF11 cF12 cF13 cF14 cF15 cF16 kF fF
        have hGF1 : Hid (((w0.setCell ⟨w.heap.size, 13, none⟩ (.bool true)).setCell ⟨w.heap.size, 14, none⟩ (.bool true)).heap[w.heap.size]? = some (.cells #[.int .i64 fo.proto, .int .i64 fo.src, .int .i64 fo.sport, .int .i64 fo.dst, .int .i64 fo.dport, .int .i64 fo.kind, .int .i64 fb.proto, .int .i64 fb.src, .int .i64 fb.sport, .int .i64 fb.dst, .int .i64 fb.dport, .int .i64 fb.kind, .int .i64 fs, .bool true, .bool true, .int .i64 ft, .int .i64 fc] 29)) := by
          have := (blk_set (blk_set hGF0.out 13 (.bool true)) 14 (.bool true))
          exact this
        have hGP1 := hidS (blk_other (B := w.heap.size) (blk_other (B := w.heap.size) hGP0.out (by omega) 13 (.bool true)) (by omega) 14 (.bool true))
        have hGR1 := hidS (blk_other (B := w.heap.size) (blk_other (B := w.heap.size) hGR0.out (by omega) 13 (.bool true)) (by omega) 14 (.bool true))
        have hL1 := hidS (below_at (k := 14) (b := w.heap.size) (v := .bool true) (below_at (k := 13) (b := w.heap.size) (v := .bool true) hL0.out (by omega)) (by omega))
        clear hL0 hGF0 hGP0 hGR0
        generalize ((w0.setCell ⟨w.heap.size, 13, none⟩ (.bool true)).setCell ⟨w.heap.size, 14, none⟩ (.bool true)) = w1 at hGF1 hGP1 hGR1 hL1 ⊢
        go_wp2_with (first | refine wpList_load_blk 29 (.tmp 4) rfl rfl rfl hGF1.out Try.underlying29 rfl (by kernel_rfl) ?_)
        refine (HU.out ⟨fo, fb, fs, true, true, ft, fc⟩ _).mono ?_
        rintro _ w2 ⟨rfl, hb2⟩
        have hGF2 := hidS (blk_later hGF1.out hb2)
        have hGP2 := hidS (blk_later hGP1.out hb2)
        have hGR2 := hidS (blk_later hGR1.out hb2)
        have hL2 := hidS (hL1.out.trans (hb2.mono hL1.out.size))
        clear hb2 hL1 hGF1 hGP1 hGR1
        generalize hTL : tillF ⟨fo, fb, fs, true, true, ft, fc⟩ now = tl at *
        have cF0 := blk_cell hGF2.out 0
        have cF1 := blk_cell hGF2.out 1
        have cF2 := blk_cell hGF2.out 2
        have cF3 := blk_cell hGF2.out 3
        have cF4 := blk_cell hGF2.out 4
        have cF5 := blk_cell hGF2.out 5
        have cF6 := blk_cell hGF2.out 6
        have cF7 := blk_cell hGF2.out 7
        have cF8 := blk_cell hGF2.out 8
        have cF9 := blk_cell hGF2.out 9
        have cF10 := blk_cell hGF2.out 10
        have cF11 := blk_cell hGF2.out 11
        have cF12 := blk_cell hGF2.out 12
        have cF13 := blk_cell hGF2.out 13
        have cF14 := blk_cell hGF2.out 14
        have cF15 := blk_cell hGF2.out 15
        have cF16 := blk_cell hGF2.out 16
        simp at cF0 cF1 cF2 cF3 cF4 cF5 cF6 cF7 cF8 cF9 cF10 cF11 cF12 cF13 cF14 cF15 cF16
        have kF := blk_cell hGF2.out
        have fF := blk_free hGF2.out
        go_upto_region 12 with fail
        clear cF0 cF1 cF2 cF3 cF4 cF5 cF6 cF7 cF8 cF9 cF10 cF11 cF12 cF13 cF14 cF15 cF16 kF fF
        have hGF3 : Hid (((w2.setCell ⟨w.heap.size, 15, none⟩ (.int .i64 tl)).setCell ⟨w.heap.size, 16, none⟩ (.int .i64 (fc + 1))).heap[w.heap.size]? = some (.cells #[.int .i64 fo.proto, .int .i64 fo.src, .int .i64 fo.sport, .int .i64 fo.dst, .int .i64 fo.dport, .int .i64 fo.kind, .int .i64 fb.proto, .int .i64 fb.src, .int .i64 fb.sport, .int .i64 fb.dst, .int .i64 fb.dport, .int .i64 fb.kind, .int .i64 fs, .bool true, .bool true, .int .i64 tl, .int .i64 (fc + 1)] 29)) := by
          have := (blk_set (blk_set hGF2.out 15 (.int .i64 tl)) 16 (.int .i64 (fc + 1)))
          exact this
        have hGP3 := hidS (blk_other (B := w.heap.size) (blk_other (B := w.heap.size) hGP2.out (by omega) 15 (.int .i64 tl)) (by omega) 16 (.int .i64 (fc + 1)))
        have hGR3 := hidS (blk_other (B := w.heap.size) (blk_other (B := w.heap.size) hGR2.out (by omega) 15 (.int .i64 tl)) (by omega) 16 (.int .i64 (fc + 1)))
        have hL3 := hidS (below_at (k := 16) (b := w.heap.size) (v := .int .i64 (fc + 1)) (below_at (k := 15) (b := w.heap.size) (v := .int .i64 tl) hL2.out (by omega)) (by omega))
        clear hL2 hGF2 hGP2 hGR2
        generalize ((w2.setCell ⟨w.heap.size, 15, none⟩ (.int .i64 tl)).setCell ⟨w.heap.size, 16, none⟩ (.int .i64 (fc + 1))) = w3 at hGF3 hGP3 hGR3 hL3 ⊢
        refine plain_into 2 _ [.is (.agg #[.int .i64 fo.proto, .int .i64 fo.src, .int .i64 fo.sport, .int .i64 fo.dst, .int .i64 fo.dport, .int .i64 fo.kind, .int .i64 fb.proto, .int .i64 fb.src, .int .i64 fb.sport, .int .i64 fb.dst, .int .i64 fb.dport, .int .i64 fb.kind, .int .i64 fs, .bool true, .bool true, .int .i64 tl, .int .i64 (fc + 1)]), .is (.agg #[.int .i64 fo.proto, .int .i64 fo.src, .int .i64 fo.sport, .int .i64 fo.dst, .int .i64 fo.dport, .int .i64 fo.kind, .int .i64 fb.proto, .int .i64 fb.src, .int .i64 fb.sport, .int .i64 fb.dst, .int .i64 fb.dport, .int .i64 fb.kind, .int .i64 fs, .bool true, .bool true, .int .i64 tl, .int .i64 (fc + 1), .int .i64 0])] 1 8 74 36 36 (w.heap.size + 2) #[.int .i64 0, .int .i64 0, .int .i64 0, .int .i64 0, .int .i64 0, .int .i64 0, .int .i64 0, .int .i64 0, .int .i64 0, .int .i64 0, .int .i64 0, .int .i64 0, .int .i64 0, .bool false, .bool false, .int .i64 0, .int .i64 0, .int .i64 0] #[.int .i64 fo.proto, .int .i64 fo.src, .int .i64 fo.sport, .int .i64 fo.dst, .int .i64 fo.dport, .int .i64 fo.kind, .int .i64 fb.proto, .int .i64 fb.src, .int .i64 fb.sport, .int .i64 fb.dst, .int .i64 fb.dport, .int .i64 fb.kind, .int .i64 fs, .bool true, .bool true, .int .i64 tl, .int .i64 (fc + 1), .int .i64 0] rfl rfl rfl (by kernel_rfl) (by kernel_rfl) (by kernel_rfl) rfl rfl (by decide) (by kernel_rfl) (by kernel_rfl) (by decide) hGR3.out (by kernel_rfl) (by kernel_rfl) (by first | kernel_rfl | simp [Value.oneCell']) (by kernel_rfl) ?stepsY_28 ?finY_28
        case stepsY_28 =>
          refine ⟨?_, ?_, trivial⟩
          · refine ⟨rfl, fun v W ρ hC kc kf ks ki kd => ?_⟩
            have t4 : ρ (.tmp 4) = .pointer (some ⟨w.heap.size, 0, none⟩) := ki 4 (by decide)
            simp only [execOp, t4, Sem.run_bind, loadAt_part (o := 0) [.int .i64 fo.proto, .int .i64 fo.src, .int .i64 fo.sport, .int .i64 fo.dst, .int .i64 fo.dport, .int .i64 fo.kind, .int .i64 fb.proto, .int .i64 fb.src, .int .i64 fb.sport, .int .i64 fb.dst, .int .i64 fb.dport, .int .i64 fb.kind, .int .i64 fs, .bool true, .bool true, .int .i64 tl, .int .i64 (fc + 1)] (blk_later hGF3.out hC) rfl Try.underlying29 rfl (by kernel_rfl), Result.andThen_ok, Sem.run_pure]
            exact ⟨hC, Below.refl _ _, rfl⟩
          · refine ⟨rfl, fun v W ρ hC kc kf ks ki kd => ?_⟩
            have d0 : v 0 = .agg #[.int .i64 fo.proto, .int .i64 fo.src, .int .i64 fo.sport, .int .i64 fo.dst, .int .i64 fo.dport, .int .i64 fo.kind, .int .i64 fb.proto, .int .i64 fb.src, .int .i64 fb.sport, .int .i64 fb.dst, .int .i64 fb.dport, .int .i64 fb.kind, .int .i64 fs, .bool true, .bool true, .int .i64 tl, .int .i64 (fc + 1)] := by first | exact kd _ (mem0 rfl) rfl | exact kd _ (mem1 rfl) rfl | exact kd _ (mem2 rfl) rfl | exact kd _ (mem3 rfl) rfl | exact kd _ (mem4 rfl) rfl | exact kd _ (mem5 rfl) rfl | exact kd _ (Array.mem_of_getElem? (i := 6) rfl) rfl | exact kd _ (Array.mem_of_getElem? (i := 7) rfl) rfl
            have t73 : ρ (.tmp 73) = .agg #[.int .i64 fo.proto, .int .i64 fo.src, .int .i64 fo.sport, .int .i64 fo.dst, .int .i64 fo.dport, .int .i64 fo.kind, .int .i64 fb.proto, .int .i64 fb.src, .int .i64 fb.sport, .int .i64 fb.dst, .int .i64 fb.dport, .int .i64 fb.kind, .int .i64 fs, .bool true, .bool true, .int .i64 tl, .int .i64 (fc + 1)] := (ks 0 73 (by decide) rfl).trans d0
            simp [execOp, go_sem, kc, t73]
            exact ⟨hC, Below.refl _ _, rfl⟩
        intro vY_28 WY_28 hBY_28 hgY_28 hall
        simp [upto, Act.put]
        clear hall
        have hEY_28 := hidS (hL3.out.trans (hBY_28 w.heap.size (by omega)))
        have hcY_28 := loadVar_blk (P := Try.prog) hgY_28 Try.underlying36 rfl (by kernel_rfl)
        clear hBY_28 hgY_28 hL3 hGF3 hGP3 hGR3
        go_wp2_with fail
        exact bodyPost_ret (v := .agg #[.int .i64 fo.proto, .int .i64 fo.src, .int .i64 fo.sport, .int .i64 fo.dst, .int .i64 fo.dport, .int .i64 fo.kind, .int .i64 fb.proto, .int .i64 fb.src, .int .i64 fb.sport, .int .i64 fb.dst, .int .i64 fb.dport, .int .i64 fb.kind, .int .i64 fs, .bool true, .bool true, .int .i64 tl, .int .i64 (fc + 1), .int .i64 0]) (results_cell Try.results36 rfl hcY_28) rfl ⟨by rw [EX.out, EC.out] ; first | done | rfl, hEY_28.out⟩
      · have EX := hidS (flowX_yes now ⟨fo, fb, fs, true, false, ft, fc⟩ EC.out (HLED.out.trans (by simp)))
        have cP0 := blk_cell hGP0.out 0
        have cP1 := blk_cell hGP0.out 1
        have cP2 := blk_cell hGP0.out 2
        have cP3 := blk_cell hGP0.out 3
        have cP4 := blk_cell hGP0.out 4
        have cP5 := blk_cell hGP0.out 5
        have cP6 := blk_cell hGP0.out 6
        have cP7 := blk_cell hGP0.out 7
        have cP8 := blk_cell hGP0.out 8
        have cP9 := blk_cell hGP0.out 9
        simp at cP0 cP1 cP2 cP3 cP4 cP5 cP6 cP7 cP8 cP9
        have cF0 := blk_cell hGF0.out 0
        have cF1 := blk_cell hGF0.out 1
        have cF2 := blk_cell hGF0.out 2
        have cF3 := blk_cell hGF0.out 3
        have cF4 := blk_cell hGF0.out 4
        have cF5 := blk_cell hGF0.out 5
        have cF6 := blk_cell hGF0.out 6
        have cF7 := blk_cell hGF0.out 7
        have cF8 := blk_cell hGF0.out 8
        have cF9 := blk_cell hGF0.out 9
        have cF10 := blk_cell hGF0.out 10
        have cF11 := blk_cell hGF0.out 11
        have cF12 := blk_cell hGF0.out 12
        have cF13 := blk_cell hGF0.out 13
        have cF14 := blk_cell hGF0.out 14
        have cF15 := blk_cell hGF0.out 15
        have cF16 := blk_cell hGF0.out 16
        simp at cF0 cF1 cF2 cF3 cF4 cF5 cF6 cF7 cF8 cF9 cF10 cF11 cF12 cF13 cF14 cF15 cF16
        have kF := blk_cell hGF0.out
        have fF := blk_free hGF0.out
        go_upto_region 10 with fail
        clear cP0 cP1 cP2 cP3 cP4 cP5 cP6 cP7 cP8 cP9 cF0 cF1 cF2 cF3 cF4 cF5 cF6 cF7 cF8 cF9 cF10 cF11 cF12 cF13 cF14 cF15 cF16 kF fF
        have hGF1 : Hid (((w0.setCell ⟨w.heap.size, 13, none⟩ (.bool true)).setCell ⟨w.heap.size, 14, none⟩ (.bool false)).heap[w.heap.size]? = some (.cells #[.int .i64 fo.proto, .int .i64 fo.src, .int .i64 fo.sport, .int .i64 fo.dst, .int .i64 fo.dport, .int .i64 fo.kind, .int .i64 fb.proto, .int .i64 fb.src, .int .i64 fb.sport, .int .i64 fb.dst, .int .i64 fb.dport, .int .i64 fb.kind, .int .i64 fs, .bool true, .bool false, .int .i64 ft, .int .i64 fc] 29)) := by
          have := (blk_set (blk_set hGF0.out 13 (.bool true)) 14 (.bool false))
          exact this
        have hGP1 := hidS (blk_other (B := w.heap.size) (blk_other (B := w.heap.size) hGP0.out (by omega) 13 (.bool true)) (by omega) 14 (.bool false))
        have hGR1 := hidS (blk_other (B := w.heap.size) (blk_other (B := w.heap.size) hGR0.out (by omega) 13 (.bool true)) (by omega) 14 (.bool false))
        have hL1 := hidS (below_at (k := 14) (b := w.heap.size) (v := .bool false) (below_at (k := 13) (b := w.heap.size) (v := .bool true) hL0.out (by omega)) (by omega))
        clear hL0 hGF0 hGP0 hGR0
        generalize ((w0.setCell ⟨w.heap.size, 13, none⟩ (.bool true)).setCell ⟨w.heap.size, 14, none⟩ (.bool false)) = w1 at hGF1 hGP1 hGR1 hL1 ⊢
        go_wp2_with (first | refine wpList_load_blk 29 (.tmp 4) rfl rfl rfl hGF1.out Try.underlying29 rfl (by kernel_rfl) ?_)
        refine (HU.out ⟨fo, fb, fs, true, false, ft, fc⟩ _).mono ?_
        rintro _ w2 ⟨rfl, hb2⟩
        have hGF2 := hidS (blk_later hGF1.out hb2)
        have hGP2 := hidS (blk_later hGP1.out hb2)
        have hGR2 := hidS (blk_later hGR1.out hb2)
        have hL2 := hidS (hL1.out.trans (hb2.mono hL1.out.size))
        clear hb2 hL1 hGF1 hGP1 hGR1
        generalize hTL : tillF ⟨fo, fb, fs, true, false, ft, fc⟩ now = tl at *
        have cF0 := blk_cell hGF2.out 0
        have cF1 := blk_cell hGF2.out 1
        have cF2 := blk_cell hGF2.out 2
        have cF3 := blk_cell hGF2.out 3
        have cF4 := blk_cell hGF2.out 4
        have cF5 := blk_cell hGF2.out 5
        have cF6 := blk_cell hGF2.out 6
        have cF7 := blk_cell hGF2.out 7
        have cF8 := blk_cell hGF2.out 8
        have cF9 := blk_cell hGF2.out 9
        have cF10 := blk_cell hGF2.out 10
        have cF11 := blk_cell hGF2.out 11
        have cF12 := blk_cell hGF2.out 12
        have cF13 := blk_cell hGF2.out 13
        have cF14 := blk_cell hGF2.out 14
        have cF15 := blk_cell hGF2.out 15
        have cF16 := blk_cell hGF2.out 16
        simp at cF0 cF1 cF2 cF3 cF4 cF5 cF6 cF7 cF8 cF9 cF10 cF11 cF12 cF13 cF14 cF15 cF16
        have kF := blk_cell hGF2.out
        have fF := blk_free hGF2.out
        go_upto_region 12 with fail
        clear cF0 cF1 cF2 cF3 cF4 cF5 cF6 cF7 cF8 cF9 cF10 cF11 cF12 cF13 cF14 cF15 cF16 kF fF
        have hGF3 : Hid (((w2.setCell ⟨w.heap.size, 15, none⟩ (.int .i64 tl)).setCell ⟨w.heap.size, 16, none⟩ (.int .i64 (fc + 1))).heap[w.heap.size]? = some (.cells #[.int .i64 fo.proto, .int .i64 fo.src, .int .i64 fo.sport, .int .i64 fo.dst, .int .i64 fo.dport, .int .i64 fo.kind, .int .i64 fb.proto, .int .i64 fb.src, .int .i64 fb.sport, .int .i64 fb.dst, .int .i64 fb.dport, .int .i64 fb.kind, .int .i64 fs, .bool true, .bool false, .int .i64 tl, .int .i64 (fc + 1)] 29)) := by
          have := (blk_set (blk_set hGF2.out 15 (.int .i64 tl)) 16 (.int .i64 (fc + 1)))
          exact this
        have hGP3 := hidS (blk_other (B := w.heap.size) (blk_other (B := w.heap.size) hGP2.out (by omega) 15 (.int .i64 tl)) (by omega) 16 (.int .i64 (fc + 1)))
        have hGR3 := hidS (blk_other (B := w.heap.size) (blk_other (B := w.heap.size) hGR2.out (by omega) 15 (.int .i64 tl)) (by omega) 16 (.int .i64 (fc + 1)))
        have hL3 := hidS (below_at (k := 16) (b := w.heap.size) (v := .int .i64 (fc + 1)) (below_at (k := 15) (b := w.heap.size) (v := .int .i64 tl) hL2.out (by omega)) (by omega))
        clear hL2 hGF2 hGP2 hGR2
        generalize ((w2.setCell ⟨w.heap.size, 15, none⟩ (.int .i64 tl)).setCell ⟨w.heap.size, 16, none⟩ (.int .i64 (fc + 1))) = w3 at hGF3 hGP3 hGR3 hL3 ⊢
        refine plain_into 2 _ [.is (.agg #[.int .i64 fo.proto, .int .i64 fo.src, .int .i64 fo.sport, .int .i64 fo.dst, .int .i64 fo.dport, .int .i64 fo.kind, .int .i64 fb.proto, .int .i64 fb.src, .int .i64 fb.sport, .int .i64 fb.dst, .int .i64 fb.dport, .int .i64 fb.kind, .int .i64 fs, .bool true, .bool false, .int .i64 tl, .int .i64 (fc + 1)]), .is (.agg #[.int .i64 fo.proto, .int .i64 fo.src, .int .i64 fo.sport, .int .i64 fo.dst, .int .i64 fo.dport, .int .i64 fo.kind, .int .i64 fb.proto, .int .i64 fb.src, .int .i64 fb.sport, .int .i64 fb.dst, .int .i64 fb.dport, .int .i64 fb.kind, .int .i64 fs, .bool true, .bool false, .int .i64 tl, .int .i64 (fc + 1), .int .i64 0])] 1 8 74 36 36 (w.heap.size + 2) #[.int .i64 0, .int .i64 0, .int .i64 0, .int .i64 0, .int .i64 0, .int .i64 0, .int .i64 0, .int .i64 0, .int .i64 0, .int .i64 0, .int .i64 0, .int .i64 0, .int .i64 0, .bool false, .bool false, .int .i64 0, .int .i64 0, .int .i64 0] #[.int .i64 fo.proto, .int .i64 fo.src, .int .i64 fo.sport, .int .i64 fo.dst, .int .i64 fo.dport, .int .i64 fo.kind, .int .i64 fb.proto, .int .i64 fb.src, .int .i64 fb.sport, .int .i64 fb.dst, .int .i64 fb.dport, .int .i64 fb.kind, .int .i64 fs, .bool true, .bool false, .int .i64 tl, .int .i64 (fc + 1), .int .i64 0] rfl rfl rfl (by kernel_rfl) (by kernel_rfl) (by kernel_rfl) rfl rfl (by decide) (by kernel_rfl) (by kernel_rfl) (by decide) hGR3.out (by kernel_rfl) (by kernel_rfl) (by first | kernel_rfl | simp [Value.oneCell']) (by kernel_rfl) ?stepsY_29 ?finY_29
        case stepsY_29 =>
          refine ⟨?_, ?_, trivial⟩
          · refine ⟨rfl, fun v W ρ hC kc kf ks ki kd => ?_⟩
            have t4 : ρ (.tmp 4) = .pointer (some ⟨w.heap.size, 0, none⟩) := ki 4 (by decide)
            simp only [execOp, t4, Sem.run_bind, loadAt_part (o := 0) [.int .i64 fo.proto, .int .i64 fo.src, .int .i64 fo.sport, .int .i64 fo.dst, .int .i64 fo.dport, .int .i64 fo.kind, .int .i64 fb.proto, .int .i64 fb.src, .int .i64 fb.sport, .int .i64 fb.dst, .int .i64 fb.dport, .int .i64 fb.kind, .int .i64 fs, .bool true, .bool false, .int .i64 tl, .int .i64 (fc + 1)] (blk_later hGF3.out hC) rfl Try.underlying29 rfl (by kernel_rfl), Result.andThen_ok, Sem.run_pure]
            exact ⟨hC, Below.refl _ _, rfl⟩
          · refine ⟨rfl, fun v W ρ hC kc kf ks ki kd => ?_⟩
            have d0 : v 0 = .agg #[.int .i64 fo.proto, .int .i64 fo.src, .int .i64 fo.sport, .int .i64 fo.dst, .int .i64 fo.dport, .int .i64 fo.kind, .int .i64 fb.proto, .int .i64 fb.src, .int .i64 fb.sport, .int .i64 fb.dst, .int .i64 fb.dport, .int .i64 fb.kind, .int .i64 fs, .bool true, .bool false, .int .i64 tl, .int .i64 (fc + 1)] := by first | exact kd _ (mem0 rfl) rfl | exact kd _ (mem1 rfl) rfl | exact kd _ (mem2 rfl) rfl | exact kd _ (mem3 rfl) rfl | exact kd _ (mem4 rfl) rfl | exact kd _ (mem5 rfl) rfl | exact kd _ (Array.mem_of_getElem? (i := 6) rfl) rfl | exact kd _ (Array.mem_of_getElem? (i := 7) rfl) rfl
            have t73 : ρ (.tmp 73) = .agg #[.int .i64 fo.proto, .int .i64 fo.src, .int .i64 fo.sport, .int .i64 fo.dst, .int .i64 fo.dport, .int .i64 fo.kind, .int .i64 fb.proto, .int .i64 fb.src, .int .i64 fb.sport, .int .i64 fb.dst, .int .i64 fb.dport, .int .i64 fb.kind, .int .i64 fs, .bool true, .bool false, .int .i64 tl, .int .i64 (fc + 1)] := (ks 0 73 (by decide) rfl).trans d0
            simp [execOp, go_sem, kc, t73]
            exact ⟨hC, Below.refl _ _, rfl⟩
        intro vY_29 WY_29 hBY_29 hgY_29 hall
        simp [upto, Act.put]
        clear hall
        have hEY_29 := hidS (hL3.out.trans (hBY_29 w.heap.size (by omega)))
        have hcY_29 := loadVar_blk (P := Try.prog) hgY_29 Try.underlying36 rfl (by kernel_rfl)
        clear hBY_29 hgY_29 hL3 hGF3 hGP3 hGR3
        go_wp2_with fail
        exact bodyPost_ret (v := .agg #[.int .i64 fo.proto, .int .i64 fo.src, .int .i64 fo.sport, .int .i64 fo.dst, .int .i64 fo.dport, .int .i64 fo.kind, .int .i64 fb.proto, .int .i64 fb.src, .int .i64 fb.sport, .int .i64 fb.dst, .int .i64 fb.dport, .int .i64 fb.kind, .int .i64 fs, .bool true, .bool false, .int .i64 tl, .int .i64 (fc + 1), .int .i64 0]) (results_cell Try.results36 rfl hcY_29) rfl ⟨by rw [EX.out, EC.out] ; first | done | rfl, hEY_29.out⟩
    · have EX := hidS (flowX_yes now ⟨fo, fb, fs, true, true, ft, fc⟩ EC.out (HLED.out.trans (by simp)))
      have cP0 := blk_cell hGP0.out 0
      have cP1 := blk_cell hGP0.out 1
      have cP2 := blk_cell hGP0.out 2
      have cP3 := blk_cell hGP0.out 3
      have cP4 := blk_cell hGP0.out 4
      have cP5 := blk_cell hGP0.out 5
      have cP6 := blk_cell hGP0.out 6
      have cP7 := blk_cell hGP0.out 7
      have cP8 := blk_cell hGP0.out 8
      have cP9 := blk_cell hGP0.out 9
      simp at cP0 cP1 cP2 cP3 cP4 cP5 cP6 cP7 cP8 cP9
      have cF0 := blk_cell hGF0.out 0
      have cF1 := blk_cell hGF0.out 1
      have cF2 := blk_cell hGF0.out 2
      have cF3 := blk_cell hGF0.out 3
      have cF4 := blk_cell hGF0.out 4
      have cF5 := blk_cell hGF0.out 5
      have cF6 := blk_cell hGF0.out 6
      have cF7 := blk_cell hGF0.out 7
      have cF8 := blk_cell hGF0.out 8
      have cF9 := blk_cell hGF0.out 9
      have cF10 := blk_cell hGF0.out 10
      have cF11 := blk_cell hGF0.out 11
      have cF12 := blk_cell hGF0.out 12
      have cF13 := blk_cell hGF0.out 13
      have cF14 := blk_cell hGF0.out 14
      have cF15 := blk_cell hGF0.out 15
      have cF16 := blk_cell hGF0.out 16
      simp at cF0 cF1 cF2 cF3 cF4 cF5 cF6 cF7 cF8 cF9 cF10 cF11 cF12 cF13 cF14 cF15 cF16
      have kF := blk_cell hGF0.out
      have fF := blk_free hGF0.out
      go_upto_region 10 with fail
      clear cP0 cP1 cP2 cP3 cP4 cP5 cP6 cP7 cP8 cP9 cF0 cF1 cF2 cF3 cF4 cF5 cF6 cF7 cF8 cF9 cF10 cF11 cF12 cF13 cF14 cF15 cF16 kF fF
      have hGF1 : Hid (((w0.setCell ⟨w.heap.size, 13, none⟩ (.bool true)).setCell ⟨w.heap.size, 14, none⟩ (.bool true)).heap[w.heap.size]? = some (.cells #[.int .i64 fo.proto, .int .i64 fo.src, .int .i64 fo.sport, .int .i64 fo.dst, .int .i64 fo.dport, .int .i64 fo.kind, .int .i64 fb.proto, .int .i64 fb.src, .int .i64 fb.sport, .int .i64 fb.dst, .int .i64 fb.dport, .int .i64 fb.kind, .int .i64 fs, .bool true, .bool true, .int .i64 ft, .int .i64 fc] 29)) := by
        have := (blk_set (blk_set hGF0.out 13 (.bool true)) 14 (.bool true))
        exact this
      have hGP1 := hidS (blk_other (B := w.heap.size) (blk_other (B := w.heap.size) hGP0.out (by omega) 13 (.bool true)) (by omega) 14 (.bool true))
      have hGR1 := hidS (blk_other (B := w.heap.size) (blk_other (B := w.heap.size) hGR0.out (by omega) 13 (.bool true)) (by omega) 14 (.bool true))
      have hL1 := hidS (below_at (k := 14) (b := w.heap.size) (v := .bool true) (below_at (k := 13) (b := w.heap.size) (v := .bool true) hL0.out (by omega)) (by omega))
      clear hL0 hGF0 hGP0 hGR0
      generalize ((w0.setCell ⟨w.heap.size, 13, none⟩ (.bool true)).setCell ⟨w.heap.size, 14, none⟩ (.bool true)) = w1 at hGF1 hGP1 hGR1 hL1 ⊢
      go_wp2_with (first | refine wpList_load_blk 29 (.tmp 4) rfl rfl rfl hGF1.out Try.underlying29 rfl (by kernel_rfl) ?_)
      refine (HU.out ⟨fo, fb, fs, true, true, ft, fc⟩ _).mono ?_
      rintro _ w2 ⟨rfl, hb2⟩
      have hGF2 := hidS (blk_later hGF1.out hb2)
      have hGP2 := hidS (blk_later hGP1.out hb2)
      have hGR2 := hidS (blk_later hGR1.out hb2)
      have hL2 := hidS (hL1.out.trans (hb2.mono hL1.out.size))
      clear hb2 hL1 hGF1 hGP1 hGR1
      generalize hTL : tillF ⟨fo, fb, fs, true, true, ft, fc⟩ now = tl at *
      have cF0 := blk_cell hGF2.out 0
      have cF1 := blk_cell hGF2.out 1
      have cF2 := blk_cell hGF2.out 2
      have cF3 := blk_cell hGF2.out 3
      have cF4 := blk_cell hGF2.out 4
      have cF5 := blk_cell hGF2.out 5
      have cF6 := blk_cell hGF2.out 6
      have cF7 := blk_cell hGF2.out 7
      have cF8 := blk_cell hGF2.out 8
      have cF9 := blk_cell hGF2.out 9
      have cF10 := blk_cell hGF2.out 10
      have cF11 := blk_cell hGF2.out 11
      have cF12 := blk_cell hGF2.out 12
      have cF13 := blk_cell hGF2.out 13
      have cF14 := blk_cell hGF2.out 14
      have cF15 := blk_cell hGF2.out 15
      have cF16 := blk_cell hGF2.out 16
      simp at cF0 cF1 cF2 cF3 cF4 cF5 cF6 cF7 cF8 cF9 cF10 cF11 cF12 cF13 cF14 cF15 cF16
      have kF := blk_cell hGF2.out
      have fF := blk_free hGF2.out
      go_upto_region 12 with fail
      clear cF0 cF1 cF2 cF3 cF4 cF5 cF6 cF7 cF8 cF9 cF10 cF11 cF12 cF13 cF14 cF15 cF16 kF fF
      have hGF3 : Hid (((w2.setCell ⟨w.heap.size, 15, none⟩ (.int .i64 tl)).setCell ⟨w.heap.size, 16, none⟩ (.int .i64 (fc + 1))).heap[w.heap.size]? = some (.cells #[.int .i64 fo.proto, .int .i64 fo.src, .int .i64 fo.sport, .int .i64 fo.dst, .int .i64 fo.dport, .int .i64 fo.kind, .int .i64 fb.proto, .int .i64 fb.src, .int .i64 fb.sport, .int .i64 fb.dst, .int .i64 fb.dport, .int .i64 fb.kind, .int .i64 fs, .bool true, .bool true, .int .i64 tl, .int .i64 (fc + 1)] 29)) := by
        have := (blk_set (blk_set hGF2.out 15 (.int .i64 tl)) 16 (.int .i64 (fc + 1)))
        exact this
      have hGP3 := hidS (blk_other (B := w.heap.size) (blk_other (B := w.heap.size) hGP2.out (by omega) 15 (.int .i64 tl)) (by omega) 16 (.int .i64 (fc + 1)))
      have hGR3 := hidS (blk_other (B := w.heap.size) (blk_other (B := w.heap.size) hGR2.out (by omega) 15 (.int .i64 tl)) (by omega) 16 (.int .i64 (fc + 1)))
      have hL3 := hidS (below_at (k := 16) (b := w.heap.size) (v := .int .i64 (fc + 1)) (below_at (k := 15) (b := w.heap.size) (v := .int .i64 tl) hL2.out (by omega)) (by omega))
      clear hL2 hGF2 hGP2 hGR2
      generalize ((w2.setCell ⟨w.heap.size, 15, none⟩ (.int .i64 tl)).setCell ⟨w.heap.size, 16, none⟩ (.int .i64 (fc + 1))) = w3 at hGF3 hGP3 hGR3 hL3 ⊢
      refine plain_into 2 _ [.is (.agg #[.int .i64 fo.proto, .int .i64 fo.src, .int .i64 fo.sport, .int .i64 fo.dst, .int .i64 fo.dport, .int .i64 fo.kind, .int .i64 fb.proto, .int .i64 fb.src, .int .i64 fb.sport, .int .i64 fb.dst, .int .i64 fb.dport, .int .i64 fb.kind, .int .i64 fs, .bool true, .bool true, .int .i64 tl, .int .i64 (fc + 1)]), .is (.agg #[.int .i64 fo.proto, .int .i64 fo.src, .int .i64 fo.sport, .int .i64 fo.dst, .int .i64 fo.dport, .int .i64 fo.kind, .int .i64 fb.proto, .int .i64 fb.src, .int .i64 fb.sport, .int .i64 fb.dst, .int .i64 fb.dport, .int .i64 fb.kind, .int .i64 fs, .bool true, .bool true, .int .i64 tl, .int .i64 (fc + 1), .int .i64 0])] 1 8 74 36 36 (w.heap.size + 2) #[.int .i64 0, .int .i64 0, .int .i64 0, .int .i64 0, .int .i64 0, .int .i64 0, .int .i64 0, .int .i64 0, .int .i64 0, .int .i64 0, .int .i64 0, .int .i64 0, .int .i64 0, .bool false, .bool false, .int .i64 0, .int .i64 0, .int .i64 0] #[.int .i64 fo.proto, .int .i64 fo.src, .int .i64 fo.sport, .int .i64 fo.dst, .int .i64 fo.dport, .int .i64 fo.kind, .int .i64 fb.proto, .int .i64 fb.src, .int .i64 fb.sport, .int .i64 fb.dst, .int .i64 fb.dport, .int .i64 fb.kind, .int .i64 fs, .bool true, .bool true, .int .i64 tl, .int .i64 (fc + 1), .int .i64 0] rfl rfl rfl (by kernel_rfl) (by kernel_rfl) (by kernel_rfl) rfl rfl (by decide) (by kernel_rfl) (by kernel_rfl) (by decide) hGR3.out (by kernel_rfl) (by kernel_rfl) (by first | kernel_rfl | simp [Value.oneCell']) (by kernel_rfl) ?stepsY_30 ?finY_30
      case stepsY_30 =>
        refine ⟨?_, ?_, trivial⟩
        · refine ⟨rfl, fun v W ρ hC kc kf ks ki kd => ?_⟩
          have t4 : ρ (.tmp 4) = .pointer (some ⟨w.heap.size, 0, none⟩) := ki 4 (by decide)
          simp only [execOp, t4, Sem.run_bind, loadAt_part (o := 0) [.int .i64 fo.proto, .int .i64 fo.src, .int .i64 fo.sport, .int .i64 fo.dst, .int .i64 fo.dport, .int .i64 fo.kind, .int .i64 fb.proto, .int .i64 fb.src, .int .i64 fb.sport, .int .i64 fb.dst, .int .i64 fb.dport, .int .i64 fb.kind, .int .i64 fs, .bool true, .bool true, .int .i64 tl, .int .i64 (fc + 1)] (blk_later hGF3.out hC) rfl Try.underlying29 rfl (by kernel_rfl), Result.andThen_ok, Sem.run_pure]
          exact ⟨hC, Below.refl _ _, rfl⟩
        · refine ⟨rfl, fun v W ρ hC kc kf ks ki kd => ?_⟩
          have d0 : v 0 = .agg #[.int .i64 fo.proto, .int .i64 fo.src, .int .i64 fo.sport, .int .i64 fo.dst, .int .i64 fo.dport, .int .i64 fo.kind, .int .i64 fb.proto, .int .i64 fb.src, .int .i64 fb.sport, .int .i64 fb.dst, .int .i64 fb.dport, .int .i64 fb.kind, .int .i64 fs, .bool true, .bool true, .int .i64 tl, .int .i64 (fc + 1)] := by first | exact kd _ (mem0 rfl) rfl | exact kd _ (mem1 rfl) rfl | exact kd _ (mem2 rfl) rfl | exact kd _ (mem3 rfl) rfl | exact kd _ (mem4 rfl) rfl | exact kd _ (mem5 rfl) rfl | exact kd _ (Array.mem_of_getElem? (i := 6) rfl) rfl | exact kd _ (Array.mem_of_getElem? (i := 7) rfl) rfl
          have t73 : ρ (.tmp 73) = .agg #[.int .i64 fo.proto, .int .i64 fo.src, .int .i64 fo.sport, .int .i64 fo.dst, .int .i64 fo.dport, .int .i64 fo.kind, .int .i64 fb.proto, .int .i64 fb.src, .int .i64 fb.sport, .int .i64 fb.dst, .int .i64 fb.dport, .int .i64 fb.kind, .int .i64 fs, .bool true, .bool true, .int .i64 tl, .int .i64 (fc + 1)] := (ks 0 73 (by decide) rfl).trans d0
          simp [execOp, go_sem, kc, t73]
          exact ⟨hC, Below.refl _ _, rfl⟩
      intro vY_30 WY_30 hBY_30 hgY_30 hall
      simp [upto, Act.put]
      clear hall
      have hEY_30 := hidS (hL3.out.trans (hBY_30 w.heap.size (by omega)))
      have hcY_30 := loadVar_blk (P := Try.prog) hgY_30 Try.underlying36 rfl (by kernel_rfl)
      clear hBY_30 hgY_30 hL3 hGF3 hGP3 hGR3
      go_wp2_with fail
      exact bodyPost_ret (v := .agg #[.int .i64 fo.proto, .int .i64 fo.src, .int .i64 fo.sport, .int .i64 fo.dst, .int .i64 fo.dport, .int .i64 fo.kind, .int .i64 fb.proto, .int .i64 fb.src, .int .i64 fb.sport, .int .i64 fb.dst, .int .i64 fb.dport, .int .i64 fb.kind, .int .i64 fs, .bool true, .bool true, .int .i64 tl, .int .i64 (fc + 1), .int .i64 0]) (results_cell Try.results36 rfl hcY_30) rfl ⟨by rw [EX.out, EC.out] ; first | done | rfl, hEY_30.out⟩
set_option maxHeartbeats 8000000 in
theorem l09Next_ping (fo fb : Tp) (fs ft fc : Int) (fn fu : Bool) (p : Pk) (b : Bool) (now : Int) (w : World) (h0 : 0 ≤ now ∧ now ≤ 1000000) (hc : 1 ≤ fc ∧ fc ≤ 1000000) (h6 : ¬ p.proto = 6) (h17 : ¬ p.proto = 17) :
    Calls Try.prog 36 #[.agg #[.int .i64 fo.proto, .int .i64 fo.src, .int .i64 fo.sport, .int .i64 fo.dst, .int .i64 fo.dport, .int .i64 fo.kind, .int .i64 fb.proto, .int .i64 fb.src, .int .i64 fb.sport, .int .i64 fb.dst, .int .i64 fb.dport, .int .i64 fb.kind, .int .i64 fs, .bool fn, .bool fu, .int .i64 ft, .int .i64 fc], .agg #[.int .i64 p.src, .int .i64 p.dst, .int .i64 p.proto, .int .i64 p.a, .int .i64 p.b, .int .i64 p.kind, .int .i64 p.flags, .int .i64 p.seq, .int .i64 p.ack, .string p.body], .bool b, .int .i64 now] w fun e w' => e = .returned (.agg #[.int .i64 (flowX ⟨fo, fb, fs, fn, fu, ft, fc⟩ p b now).orig.proto, .int .i64 (flowX ⟨fo, fb, fs, fn, fu, ft, fc⟩ p b now).orig.src, .int .i64 (flowX ⟨fo, fb, fs, fn, fu, ft, fc⟩ p b now).orig.sport, .int .i64 (flowX ⟨fo, fb, fs, fn, fu, ft, fc⟩ p b now).orig.dst, .int .i64 (flowX ⟨fo, fb, fs, fn, fu, ft, fc⟩ p b now).orig.dport, .int .i64 (flowX ⟨fo, fb, fs, fn, fu, ft, fc⟩ p b now).orig.kind, .int .i64 (flowX ⟨fo, fb, fs, fn, fu, ft, fc⟩ p b now).back.proto, .int .i64 (flowX ⟨fo, fb, fs, fn, fu, ft, fc⟩ p b now).back.src, .int .i64 (flowX ⟨fo, fb, fs, fn, fu, ft, fc⟩ p b now).back.sport, .int .i64 (flowX ⟨fo, fb, fs, fn, fu, ft, fc⟩ p b now).back.dst, .int .i64 (flowX ⟨fo, fb, fs, fn, fu, ft, fc⟩ p b now).back.dport, .int .i64 (flowX ⟨fo, fb, fs, fn, fu, ft, fc⟩ p b now).back.kind, .int .i64 (flowX ⟨fo, fb, fs, fn, fu, ft, fc⟩ p b now).state, .bool (flowX ⟨fo, fb, fs, fn, fu, ft, fc⟩ p b now).seen, .bool (flowX ⟨fo, fb, fs, fn, fu, ft, fc⟩ p b now).sure, .int .i64 (flowX ⟨fo, fb, fs, fn, fu, ft, fc⟩ p b now).till, .int .i64 (flowX ⟨fo, fb, fs, fn, fu, ft, fc⟩ p b now).count, .int .i64 (codeX ⟨fo, fb, fs, fn, fu, ft, fc⟩ p b)]) ∧ Below w.heap.size w w' := by
  have HS := hidS (fun W => sameB (specSign_any p.flags W))
  have HI10 := hidS (fun W => l09Ill_any 10 W)
  have HI9 := hidS (fun W => l09Ill_any 9 W)
  have HU := hidS (fun F W => specTill_any F now W h0 (life_bd F.state))
  obtain ⟨hc0, hc1⟩ := hc
  clear h0
  replace h6 := hidS h6
  replace h17 := hidS h17
  have hGF0 : Hid ((((w.alloc (.cells #[.int .i64 fo.proto, .int .i64 fo.src, .int .i64 fo.sport, .int .i64 fo.dst, .int .i64 fo.dport, .int .i64 fo.kind, .int .i64 fb.proto, .int .i64 fb.src, .int .i64 fb.sport, .int .i64 fb.dst, .int .i64 fb.dport, .int .i64 fb.kind, .int .i64 fs, .bool fn, .bool fu, .int .i64 ft, .int .i64 fc] 29)).alloc (.cells #[.int .i64 p.src, .int .i64 p.dst, .int .i64 p.proto, .int .i64 p.a, .int .i64 p.b, .int .i64 p.kind, .int .i64 p.flags, .int .i64 p.seq, .int .i64 p.ack, .string p.body] 38)).alloc (.cells #[.int .i64 0, .int .i64 0, .int .i64 0, .int .i64 0, .int .i64 0, .int .i64 0, .int .i64 0, .int .i64 0, .int .i64 0, .int .i64 0, .int .i64 0, .int .i64 0, .int .i64 0, .bool false, .bool false, .int .i64 0, .int .i64 0, .int .i64 0] 36)).heap[w.heap.size]? = some (.cells #[.int .i64 fo.proto, .int .i64 fo.src, .int .i64 fo.sport, .int .i64 fo.dst, .int .i64 fo.dport, .int .i64 fo.kind, .int .i64 fb.proto, .int .i64 fb.src, .int .i64 fb.sport, .int .i64 fb.dst, .int .i64 fb.dport, .int .i64 fb.kind, .int .i64 fs, .bool fn, .bool fu, .int .i64 ft, .int .i64 fc] 29)) := by
    show _ = _
    have := blk_alloc (blk_alloc (heap_newG w (.cells #[.int .i64 fo.proto, .int .i64 fo.src, .int .i64 fo.sport, .int .i64 fo.dst, .int .i64 fo.dport, .int .i64 fo.kind, .int .i64 fb.proto, .int .i64 fb.src, .int .i64 fb.sport, .int .i64 fb.dst, .int .i64 fb.dport, .int .i64 fb.kind, .int .i64 fs, .bool fn, .bool fu, .int .i64 ft, .int .i64 fc] 29)) (.cells #[.int .i64 p.src, .int .i64 p.dst, .int .i64 p.proto, .int .i64 p.a, .int .i64 p.b, .int .i64 p.kind, .int .i64 p.flags, .int .i64 p.seq, .int .i64 p.ack, .string p.body] 38)) (.cells #[.int .i64 0, .int .i64 0, .int .i64 0, .int .i64 0, .int .i64 0, .int .i64 0, .int .i64 0, .int .i64 0, .int .i64 0, .int .i64 0, .int .i64 0, .int .i64 0, .int .i64 0, .bool false, .bool false, .int .i64 0, .int .i64 0, .int .i64 0] 36)
    simpa using this
  have hGP0 : Hid ((((w.alloc (.cells #[.int .i64 fo.proto, .int .i64 fo.src, .int .i64 fo.sport, .int .i64 fo.dst, .int .i64 fo.dport, .int .i64 fo.kind, .int .i64 fb.proto, .int .i64 fb.src, .int .i64 fb.sport, .int .i64 fb.dst, .int .i64 fb.dport, .int .i64 fb.kind, .int .i64 fs, .bool fn, .bool fu, .int .i64 ft, .int .i64 fc] 29)).alloc (.cells #[.int .i64 p.src, .int .i64 p.dst, .int .i64 p.proto, .int .i64 p.a, .int .i64 p.b, .int .i64 p.kind, .int .i64 p.flags, .int .i64 p.seq, .int .i64 p.ack, .string p.body] 38)).alloc (.cells #[.int .i64 0, .int .i64 0, .int .i64 0, .int .i64 0, .int .i64 0, .int .i64 0, .int .i64 0, .int .i64 0, .int .i64 0, .int .i64 0, .int .i64 0, .int .i64 0, .int .i64 0, .bool false, .bool false, .int .i64 0, .int .i64 0, .int .i64 0] 36)).heap[w.heap.size + 1]? = some (.cells #[.int .i64 p.src, .int .i64 p.dst, .int .i64 p.proto, .int .i64 p.a, .int .i64 p.b, .int .i64 p.kind, .int .i64 p.flags, .int .i64 p.seq, .int .i64 p.ack, .string p.body] 38)) := by
    show _ = _
    have := blk_alloc (heap_newG (w.alloc (.cells #[.int .i64 fo.proto, .int .i64 fo.src, .int .i64 fo.sport, .int .i64 fo.dst, .int .i64 fo.dport, .int .i64 fo.kind, .int .i64 fb.proto, .int .i64 fb.src, .int .i64 fb.sport, .int .i64 fb.dst, .int .i64 fb.dport, .int .i64 fb.kind, .int .i64 fs, .bool fn, .bool fu, .int .i64 ft, .int .i64 fc] 29)) (.cells #[.int .i64 p.src, .int .i64 p.dst, .int .i64 p.proto, .int .i64 p.a, .int .i64 p.b, .int .i64 p.kind, .int .i64 p.flags, .int .i64 p.seq, .int .i64 p.ack, .string p.body] 38)) (.cells #[.int .i64 0, .int .i64 0, .int .i64 0, .int .i64 0, .int .i64 0, .int .i64 0, .int .i64 0, .int .i64 0, .int .i64 0, .int .i64 0, .int .i64 0, .int .i64 0, .int .i64 0, .bool false, .bool false, .int .i64 0, .int .i64 0, .int .i64 0] 36)
    simpa using this
  have hGR0 : Hid ((((w.alloc (.cells #[.int .i64 fo.proto, .int .i64 fo.src, .int .i64 fo.sport, .int .i64 fo.dst, .int .i64 fo.dport, .int .i64 fo.kind, .int .i64 fb.proto, .int .i64 fb.src, .int .i64 fb.sport, .int .i64 fb.dst, .int .i64 fb.dport, .int .i64 fb.kind, .int .i64 fs, .bool fn, .bool fu, .int .i64 ft, .int .i64 fc] 29)).alloc (.cells #[.int .i64 p.src, .int .i64 p.dst, .int .i64 p.proto, .int .i64 p.a, .int .i64 p.b, .int .i64 p.kind, .int .i64 p.flags, .int .i64 p.seq, .int .i64 p.ack, .string p.body] 38)).alloc (.cells #[.int .i64 0, .int .i64 0, .int .i64 0, .int .i64 0, .int .i64 0, .int .i64 0, .int .i64 0, .int .i64 0, .int .i64 0, .int .i64 0, .int .i64 0, .int .i64 0, .int .i64 0, .bool false, .bool false, .int .i64 0, .int .i64 0, .int .i64 0] 36)).heap[w.heap.size + 2]? = some (.cells #[.int .i64 0, .int .i64 0, .int .i64 0, .int .i64 0, .int .i64 0, .int .i64 0, .int .i64 0, .int .i64 0, .int .i64 0, .int .i64 0, .int .i64 0, .int .i64 0, .int .i64 0, .bool false, .bool false, .int .i64 0, .int .i64 0, .int .i64 0] 36)) := by
    show _ = _
    have := heap_newG ((w.alloc (.cells #[.int .i64 fo.proto, .int .i64 fo.src, .int .i64 fo.sport, .int .i64 fo.dst, .int .i64 fo.dport, .int .i64 fo.kind, .int .i64 fb.proto, .int .i64 fb.src, .int .i64 fb.sport, .int .i64 fb.dst, .int .i64 fb.dport, .int .i64 fb.kind, .int .i64 fs, .bool fn, .bool fu, .int .i64 ft, .int .i64 fc] 29)).alloc (.cells #[.int .i64 p.src, .int .i64 p.dst, .int .i64 p.proto, .int .i64 p.a, .int .i64 p.b, .int .i64 p.kind, .int .i64 p.flags, .int .i64 p.seq, .int .i64 p.ack, .string p.body] 38)) (.cells #[.int .i64 0, .int .i64 0, .int .i64 0, .int .i64 0, .int .i64 0, .int .i64 0, .int .i64 0, .int .i64 0, .int .i64 0, .int .i64 0, .int .i64 0, .int .i64 0, .int .i64 0, .bool false, .bool false, .int .i64 0, .int .i64 0, .int .i64 0] 36)
    simpa using this
  have hL0 := hidS ((((Below.refl w.heap.size w).alloc (Nat.le_refl _) (.cells #[.int .i64 fo.proto, .int .i64 fo.src, .int .i64 fo.sport, .int .i64 fo.dst, .int .i64 fo.dport, .int .i64 fo.kind, .int .i64 fb.proto, .int .i64 fb.src, .int .i64 fb.sport, .int .i64 fb.dst, .int .i64 fb.dport, .int .i64 fb.kind, .int .i64 fs, .bool fn, .bool fu, .int .i64 ft, .int .i64 fc] 29)).alloc (by simp) (.cells #[.int .i64 p.src, .int .i64 p.dst, .int .i64 p.proto, .int .i64 p.a, .int .i64 p.b, .int .i64 p.kind, .int .i64 p.flags, .int .i64 p.seq, .int .i64 p.ack, .string p.body] 38)).alloc (by simp; omega) (.cells #[.int .i64 0, .int .i64 0, .int .i64 0, .int .i64 0, .int .i64 0, .int .i64 0, .int .i64 0, .int .i64 0, .int .i64 0, .int .i64 0, .int .i64 0, .int .i64 0, .int .i64 0, .bool false, .bool false, .int .i64 0, .int .i64 0, .int .i64 0] 36))
  go_enter Try.func36, Try.ntmps36
  go_upto_region 1 with fail
  generalize (((w.alloc (.cells #[.int .i64 fo.proto, .int .i64 fo.src, .int .i64 fo.sport, .int .i64 fo.dst, .int .i64 fo.dport, .int .i64 fo.kind, .int .i64 fb.proto, .int .i64 fb.src, .int .i64 fb.sport, .int .i64 fb.dst, .int .i64 fb.dport, .int .i64 fb.kind, .int .i64 fs, .bool fn, .bool fu, .int .i64 ft, .int .i64 fc] 29)).alloc (.cells #[.int .i64 p.src, .int .i64 p.dst, .int .i64 p.proto, .int .i64 p.a, .int .i64 p.b, .int .i64 p.kind, .int .i64 p.flags, .int .i64 p.seq, .int .i64 p.ack, .string p.body] 38)).alloc (.cells #[.int .i64 0, .int .i64 0, .int .i64 0, .int .i64 0, .int .i64 0, .int .i64 0, .int .i64 0, .int .i64 0, .int .i64 0, .int .i64 0, .int .i64 0, .int .i64 0, .int .i64 0, .bool false, .bool false, .int .i64 0, .int .i64 0, .int .i64 0] 36)) = w0 at hGF0 hGP0 hGR0 hL0 ⊢
  replace h17 := h17.out
  replace h6 := h6.out
  have p6 : (p.proto == 6) = false := beq_eq_false_iff_ne.2 h6
  have p17 : (p.proto == 17) = false := beq_eq_false_iff_ne.2 h17
  clear h17
  have HLED := hidS (led_eq fo fb fs ft fc fn fu p b false false fs p6 p17 (if_neg h6))
  have EN : Hid (¬ (p.proto = 6 ∧ toZ p.proto fs b p.flags < 0)) := fun h => h6 h.1
  clear h6 HS HI10
  have cP0 := blk_cell hGP0.out 0
  have cP1 := blk_cell hGP0.out 1
  have cP2 := blk_cell hGP0.out 2
  have cP3 := blk_cell hGP0.out 3
  have cP4 := blk_cell hGP0.out 4
  have cP5 := blk_cell hGP0.out 5
  have cP6 := blk_cell hGP0.out 6
  have cP7 := blk_cell hGP0.out 7
  have cP8 := blk_cell hGP0.out 8
  have cP9 := blk_cell hGP0.out 9
  simp at cP0 cP1 cP2 cP3 cP4 cP5 cP6 cP7 cP8 cP9
  go_upto_region 6 with fail
  clear cP0 cP1 cP2 cP3 cP4 cP5 cP6 cP7 cP8 cP9
  by_cases hq : fc = 1000000
  · have E := hidS (codeX_full (f := ⟨fo, fb, fs, fn, fu, ft, fc⟩) (p := p) (b := b) EN.out hq)
    have EX := hidS (flowX_no (f := ⟨fo, fb, fs, fn, fu, ft, fc⟩) (p := p) (b := b) now (by rw [E.out]; decide))
    have hq2 : 1000000 ≤ fc := by omega
    clear hq HLED
    have cP0 := blk_cell hGP0.out 0
    have cP1 := blk_cell hGP0.out 1
    have cP2 := blk_cell hGP0.out 2
    have cP3 := blk_cell hGP0.out 3
    have cP4 := blk_cell hGP0.out 4
    have cP5 := blk_cell hGP0.out 5
    have cP6 := blk_cell hGP0.out 6
    have cP7 := blk_cell hGP0.out 7
    have cP8 := blk_cell hGP0.out 8
    have cP9 := blk_cell hGP0.out 9
    simp at cP0 cP1 cP2 cP3 cP4 cP5 cP6 cP7 cP8 cP9
    have cF0 := blk_cell hGF0.out 0
    have cF1 := blk_cell hGF0.out 1
    have cF2 := blk_cell hGF0.out 2
    have cF3 := blk_cell hGF0.out 3
    have cF4 := blk_cell hGF0.out 4
    have cF5 := blk_cell hGF0.out 5
    have cF6 := blk_cell hGF0.out 6
    have cF7 := blk_cell hGF0.out 7
    have cF8 := blk_cell hGF0.out 8
    have cF9 := blk_cell hGF0.out 9
    have cF10 := blk_cell hGF0.out 10
    have cF11 := blk_cell hGF0.out 11
    have cF12 := blk_cell hGF0.out 12
    have cF13 := blk_cell hGF0.out 13
    have cF14 := blk_cell hGF0.out 14
    have cF15 := blk_cell hGF0.out 15
    have cF16 := blk_cell hGF0.out 16
    simp at cF0 cF1 cF2 cF3 cF4 cF5 cF6 cF7 cF8 cF9 cF10 cF11 cF12 cF13 cF14 cF15 cF16
    go_upto_region 7 with fail
    clear cP0 cP1 cP2 cP3 cP4 cP5 cP6 cP7 cP8 cP9 cF0 cF1 cF2 cF3 cF4 cF5 cF6 cF7 cF8 cF9 cF10 cF11 cF12 cF13 cF14 cF15 cF16
    refine plain_into 1 _ [.is (.agg #[.int .i64 0, .int .i64 0, .int .i64 0, .int .i64 0, .int .i64 0, .int .i64 0, .int .i64 0, .int .i64 0, .int .i64 0, .int .i64 0, .int .i64 0, .int .i64 0, .int .i64 0, .bool false, .bool false, .int .i64 0, .int .i64 0, .int .i64 9])] 0 8 28 36 36 (w.heap.size + 2) #[.int .i64 0, .int .i64 0, .int .i64 0, .int .i64 0, .int .i64 0, .int .i64 0, .int .i64 0, .int .i64 0, .int .i64 0, .int .i64 0, .int .i64 0, .int .i64 0, .int .i64 0, .bool false, .bool false, .int .i64 0, .int .i64 0, .int .i64 0] #[.int .i64 0, .int .i64 0, .int .i64 0, .int .i64 0, .int .i64 0, .int .i64 0, .int .i64 0, .int .i64 0, .int .i64 0, .int .i64 0, .int .i64 0, .int .i64 0, .int .i64 0, .bool false, .bool false, .int .i64 0, .int .i64 0, .int .i64 9] rfl rfl rfl (by kernel_rfl) (by kernel_rfl) (by kernel_rfl) rfl rfl (by decide) (by kernel_rfl) (by kernel_rfl) (by decide) hGR0.out (by kernel_rfl) (by kernel_rfl) (by first | kernel_rfl | simp [Value.oneCell']) (by kernel_rfl) ?stepsZ7_31 ?finZ7_31
    case stepsZ7_31 =>
      refine ⟨?_, trivial⟩
      · refine ⟨rfl, fun v W ρ hC kc kf ks ki kd => ?_⟩
        simp [execOp, go_sem, kc, kf]
        exact Calls.mono (HI9.out W) (fun e x h => ⟨_, h.1, hC.trans (h.2.mono hC.size), h.2, rfl⟩)
    intro vZ7_31 WZ7_31 hBZ7_31 hgZ7_31 hall
    simp [upto, Act.put]
    clear hall
    have hEZ7_31 := hidS (hL0.out.trans (hBZ7_31 w.heap.size (by omega)))
    have hcZ7_31 := loadVar_blk (P := Try.prog) hgZ7_31 Try.underlying36 rfl (by kernel_rfl)
    clear hBZ7_31 hgZ7_31 hL0 hGF0 hGP0 hGR0
    go_wp2_with fail
    exact bodyPost_ret (v := .agg #[.int .i64 0, .int .i64 0, .int .i64 0, .int .i64 0, .int .i64 0, .int .i64 0, .int .i64 0, .int .i64 0, .int .i64 0, .int .i64 0, .int .i64 0, .int .i64 0, .int .i64 0, .bool false, .bool false, .int .i64 0, .int .i64 0, .int .i64 9]) (results_cell Try.results36 rfl hcZ7_31) rfl ⟨by rw [EX.out, E.out]; rfl, hEZ7_31.out⟩
  have EC := hidS (codeX_ok (f := ⟨fo, fb, fs, fn, fu, ft, fc⟩) (p := p) (b := b) EN.out hq)
  have hq2 : fc < 1000000 := by omega
  clear hq
  have cP0 := blk_cell hGP0.out 0
  have cP1 := blk_cell hGP0.out 1
  have cP2 := blk_cell hGP0.out 2
  have cP3 := blk_cell hGP0.out 3
  have cP4 := blk_cell hGP0.out 4
  have cP5 := blk_cell hGP0.out 5
  have cP6 := blk_cell hGP0.out 6
  have cP7 := blk_cell hGP0.out 7
  have cP8 := blk_cell hGP0.out 8
  have cP9 := blk_cell hGP0.out 9
  simp at cP0 cP1 cP2 cP3 cP4 cP5 cP6 cP7 cP8 cP9
  have cF0 := blk_cell hGF0.out 0
  have cF1 := blk_cell hGF0.out 1
  have cF2 := blk_cell hGF0.out 2
  have cF3 := blk_cell hGF0.out 3
  have cF4 := blk_cell hGF0.out 4
  have cF5 := blk_cell hGF0.out 5
  have cF6 := blk_cell hGF0.out 6
  have cF7 := blk_cell hGF0.out 7
  have cF8 := blk_cell hGF0.out 8
  have cF9 := blk_cell hGF0.out 9
  have cF10 := blk_cell hGF0.out 10
  have cF11 := blk_cell hGF0.out 11
  have cF12 := blk_cell hGF0.out 12
  have cF13 := blk_cell hGF0.out 13
  have cF14 := blk_cell hGF0.out 14
  have cF15 := blk_cell hGF0.out 15
  have cF16 := blk_cell hGF0.out 16
  simp at cF0 cF1 cF2 cF3 cF4 cF5 cF6 cF7 cF8 cF9 cF10 cF11 cF12 cF13 cF14 cF15 cF16
  go_upto_region 8 with fail
  clear cP0 cP1 cP2 cP3 cP4 cP5 cP6 cP7 cP8 cP9 cF0 cF1 cF2 cF3 cF4 cF5 cF6 cF7 cF8 cF9 cF10 cF11 cF12 cF13 cF14 cF15 cF16
  cases fn
  · cases fu
    · have EX := hidS (flowX_yes now ⟨fo, fb, fs, b, false, ft, fc⟩ EC.out (HLED.out.trans (by simp)))
      have cP0 := blk_cell hGP0.out 0
      have cP1 := blk_cell hGP0.out 1
      have cP2 := blk_cell hGP0.out 2
      have cP3 := blk_cell hGP0.out 3
      have cP4 := blk_cell hGP0.out 4
      have cP5 := blk_cell hGP0.out 5
      have cP6 := blk_cell hGP0.out 6
      have cP7 := blk_cell hGP0.out 7
      have cP8 := blk_cell hGP0.out 8
      have cP9 := blk_cell hGP0.out 9
      simp at cP0 cP1 cP2 cP3 cP4 cP5 cP6 cP7 cP8 cP9
      have cF0 := blk_cell hGF0.out 0
      have cF1 := blk_cell hGF0.out 1
      have cF2 := blk_cell hGF0.out 2
      have cF3 := blk_cell hGF0.out 3
      have cF4 := blk_cell hGF0.out 4
      have cF5 := blk_cell hGF0.out 5
      have cF6 := blk_cell hGF0.out 6
      have cF7 := blk_cell hGF0.out 7
      have cF8 := blk_cell hGF0.out 8
      have cF9 := blk_cell hGF0.out 9
      have cF10 := blk_cell hGF0.out 10
      have cF11 := blk_cell hGF0.out 11
      have cF12 := blk_cell hGF0.out 12
      have cF13 := blk_cell hGF0.out 13
      have cF14 := blk_cell hGF0.out 14
      have cF15 := blk_cell hGF0.out 15
      have cF16 := blk_cell hGF0.out 16
      simp at cF0 cF1 cF2 cF3 cF4 cF5 cF6 cF7 cF8 cF9 cF10 cF11 cF12 cF13 cF14 cF15 cF16
      have kF := blk_cell hGF0.out
      have fF := blk_free hGF0.out
      go_upto_region 10 with fail
      clear cP0 cP1 cP2 cP3 cP4 cP5 cP6 cP7 cP8 cP9 cF0 cF1 cF2 cF3 cF4 cF5 cF6 cF7 cF8 cF9 cF10 cF11 cF12 cF13 cF14 cF15 cF16 kF fF
      have hGF1 : Hid (((w0.setCell ⟨w.heap.size, 13, none⟩ (.bool b)).setCell ⟨w.heap.size, 14, none⟩ (.bool false)).heap[w.heap.size]? = some (.cells #[.int .i64 fo.proto, .int .i64 fo.src, .int .i64 fo.sport, .int .i64 fo.dst, .int .i64 fo.dport, .int .i64 fo.kind, .int .i64 fb.proto, .int .i64 fb.src, .int .i64 fb.sport, .int .i64 fb.dst, .int .i64 fb.dport, .int .i64 fb.kind, .int .i64 fs, .bool b, .bool false, .int .i64 ft, .int .i64 fc] 29)) := by
        have := (blk_set (blk_set hGF0.out 13 (.bool b)) 14 (.bool false))
        exact this
      have hGP1 := hidS (blk_other (B := w.heap.size) (blk_other (B := w.heap.size) hGP0.out (by omega) 13 (.bool b)) (by omega) 14 (.bool false))
      have hGR1 := hidS (blk_other (B := w.heap.size) (blk_other (B := w.heap.size) hGR0.out (by omega) 13 (.bool b)) (by omega) 14 (.bool false))
      have hL1 := hidS (below_at (k := 14) (b := w.heap.size) (v := .bool false) (below_at (k := 13) (b := w.heap.size) (v := .bool b) hL0.out (by omega)) (by omega))
      clear hL0 hGF0 hGP0 hGR0
      generalize ((w0.setCell ⟨w.heap.size, 13, none⟩ (.bool b)).setCell ⟨w.heap.size, 14, none⟩ (.bool false)) = w1 at hGF1 hGP1 hGR1 hL1 ⊢
      go_wp2_with (first | refine wpList_load_blk 29 (.tmp 4) rfl rfl rfl hGF1.out Try.underlying29 rfl (by kernel_rfl) ?_)
      refine (HU.out ⟨fo, fb, fs, b, false, ft, fc⟩ _).mono ?_
      rintro _ w2 ⟨rfl, hb2⟩
      have hGF2 := hidS (blk_later hGF1.out hb2)
      have hGP2 := hidS (blk_later hGP1.out hb2)
      have hGR2 := hidS (blk_later hGR1.out hb2)
      have hL2 := hidS (hL1.out.trans (hb2.mono hL1.out.size))
      clear hb2 hL1 hGF1 hGP1 hGR1
      generalize hTL : tillF ⟨fo, fb, fs, b, false, ft, fc⟩ now = tl at *
      have cF0 := blk_cell hGF2.out 0
      have cF1 := blk_cell hGF2.out 1
      have cF2 := blk_cell hGF2.out 2
      have cF3 := blk_cell hGF2.out 3
      have cF4 := blk_cell hGF2.out 4
      have cF5 := blk_cell hGF2.out 5
      have cF6 := blk_cell hGF2.out 6
      have cF7 := blk_cell hGF2.out 7
      have cF8 := blk_cell hGF2.out 8
      have cF9 := blk_cell hGF2.out 9
      have cF10 := blk_cell hGF2.out 10
      have cF11 := blk_cell hGF2.out 11
      have cF12 := blk_cell hGF2.out 12
      have cF13 := blk_cell hGF2.out 13
      have cF14 := blk_cell hGF2.out 14
      have cF15 := blk_cell hGF2.out 15
      have cF16 := blk_cell hGF2.out 16
      simp at cF0 cF1 cF2 cF3 cF4 cF5 cF6 cF7 cF8 cF9 cF10 cF11 cF12 cF13 cF14 cF15 cF16
      have kF := blk_cell hGF2.out
      have fF := blk_free hGF2.out
      go_upto_region 12 with fail
      clear cF0 cF1 cF2 cF3 cF4 cF5 cF6 cF7 cF8 cF9 cF10 cF11 cF12 cF13 cF14 cF15 cF16 kF fF
      have hGF3 : Hid (((w2.setCell ⟨w.heap.size, 15, none⟩ (.int .i64 tl)).setCell ⟨w.heap.size, 16, none⟩ (.int .i64 (fc + 1))).heap[w.heap.size]? = some (.cells #[.int .i64 fo.proto, .int .i64 fo.src, .int .i64 fo.sport, .int .i64 fo.dst, .int .i64 fo.dport, .int .i64 fo.kind, .int .i64 fb.proto, .int .i64 fb.src, .int .i64 fb.sport, .int .i64 fb.dst, .int .i64 fb.dport, .int .i64 fb.kind, .int .i64 fs, .bool b, .bool false, .int .i64 tl, .int .i64 (fc + 1)] 29)) := by
        have := (blk_set (blk_set hGF2.out 15 (.int .i64 tl)) 16 (.int .i64 (fc + 1)))
        exact this
      have hGP3 := hidS (blk_other (B := w.heap.size) (blk_other (B := w.heap.size) hGP2.out (by omega) 15 (.int .i64 tl)) (by omega) 16 (.int .i64 (fc + 1)))
      have hGR3 := hidS (blk_other (B := w.heap.size) (blk_other (B := w.heap.size) hGR2.out (by omega) 15 (.int .i64 tl)) (by omega) 16 (.int .i64 (fc + 1)))
      have hL3 := hidS (below_at (k := 16) (b := w.heap.size) (v := .int .i64 (fc + 1)) (below_at (k := 15) (b := w.heap.size) (v := .int .i64 tl) hL2.out (by omega)) (by omega))
      clear hL2 hGF2 hGP2 hGR2
      generalize ((w2.setCell ⟨w.heap.size, 15, none⟩ (.int .i64 tl)).setCell ⟨w.heap.size, 16, none⟩ (.int .i64 (fc + 1))) = w3 at hGF3 hGP3 hGR3 hL3 ⊢
      refine plain_into 2 _ [.is (.agg #[.int .i64 fo.proto, .int .i64 fo.src, .int .i64 fo.sport, .int .i64 fo.dst, .int .i64 fo.dport, .int .i64 fo.kind, .int .i64 fb.proto, .int .i64 fb.src, .int .i64 fb.sport, .int .i64 fb.dst, .int .i64 fb.dport, .int .i64 fb.kind, .int .i64 fs, .bool b, .bool false, .int .i64 tl, .int .i64 (fc + 1)]), .is (.agg #[.int .i64 fo.proto, .int .i64 fo.src, .int .i64 fo.sport, .int .i64 fo.dst, .int .i64 fo.dport, .int .i64 fo.kind, .int .i64 fb.proto, .int .i64 fb.src, .int .i64 fb.sport, .int .i64 fb.dst, .int .i64 fb.dport, .int .i64 fb.kind, .int .i64 fs, .bool b, .bool false, .int .i64 tl, .int .i64 (fc + 1), .int .i64 0])] 1 8 74 36 36 (w.heap.size + 2) #[.int .i64 0, .int .i64 0, .int .i64 0, .int .i64 0, .int .i64 0, .int .i64 0, .int .i64 0, .int .i64 0, .int .i64 0, .int .i64 0, .int .i64 0, .int .i64 0, .int .i64 0, .bool false, .bool false, .int .i64 0, .int .i64 0, .int .i64 0] #[.int .i64 fo.proto, .int .i64 fo.src, .int .i64 fo.sport, .int .i64 fo.dst, .int .i64 fo.dport, .int .i64 fo.kind, .int .i64 fb.proto, .int .i64 fb.src, .int .i64 fb.sport, .int .i64 fb.dst, .int .i64 fb.dport, .int .i64 fb.kind, .int .i64 fs, .bool b, .bool false, .int .i64 tl, .int .i64 (fc + 1), .int .i64 0] rfl rfl rfl (by kernel_rfl) (by kernel_rfl) (by kernel_rfl) rfl rfl (by decide) (by kernel_rfl) (by kernel_rfl) (by decide) hGR3.out (by kernel_rfl) (by kernel_rfl) (by first | kernel_rfl | simp [Value.oneCell']) (by kernel_rfl) ?stepsY_32 ?finY_32
      case stepsY_32 =>
        refine ⟨?_, ?_, trivial⟩
        · refine ⟨rfl, fun v W ρ hC kc kf ks ki kd => ?_⟩
          have t4 : ρ (.tmp 4) = .pointer (some ⟨w.heap.size, 0, none⟩) := ki 4 (by decide)
          simp only [execOp, t4, Sem.run_bind, loadAt_part (o := 0) [.int .i64 fo.proto, .int .i64 fo.src, .int .i64 fo.sport, .int .i64 fo.dst, .int .i64 fo.dport, .int .i64 fo.kind, .int .i64 fb.proto, .int .i64 fb.src, .int .i64 fb.sport, .int .i64 fb.dst, .int .i64 fb.dport, .int .i64 fb.kind, .int .i64 fs, .bool b, .bool false, .int .i64 tl, .int .i64 (fc + 1)] (blk_later hGF3.out hC) rfl Try.underlying29 rfl (by kernel_rfl), Result.andThen_ok, Sem.run_pure]
          exact ⟨hC, Below.refl _ _, rfl⟩
        · refine ⟨rfl, fun v W ρ hC kc kf ks ki kd => ?_⟩
          have d0 : v 0 = .agg #[.int .i64 fo.proto, .int .i64 fo.src, .int .i64 fo.sport, .int .i64 fo.dst, .int .i64 fo.dport, .int .i64 fo.kind, .int .i64 fb.proto, .int .i64 fb.src, .int .i64 fb.sport, .int .i64 fb.dst, .int .i64 fb.dport, .int .i64 fb.kind, .int .i64 fs, .bool b, .bool false, .int .i64 tl, .int .i64 (fc + 1)] := by first | exact kd _ (mem0 rfl) rfl | exact kd _ (mem1 rfl) rfl | exact kd _ (mem2 rfl) rfl | exact kd _ (mem3 rfl) rfl | exact kd _ (mem4 rfl) rfl | exact kd _ (mem5 rfl) rfl | exact kd _ (Array.mem_of_getElem? (i := 6) rfl) rfl | exact kd _ (Array.mem_of_getElem? (i := 7) rfl) rfl
          have t73 : ρ (.tmp 73) = .agg #[.int .i64 fo.proto, .int .i64 fo.src, .int .i64 fo.sport, .int .i64 fo.dst, .int .i64 fo.dport, .int .i64 fo.kind, .int .i64 fb.proto, .int .i64 fb.src, .int .i64 fb.sport, .int .i64 fb.dst, .int .i64 fb.dport, .int .i64 fb.kind, .int .i64 fs, .bool b, .bool false, .int .i64 tl, .int .i64 (fc + 1)] := (ks 0 73 (by decide) rfl).trans d0
          simp [execOp, go_sem, kc, t73]
          exact ⟨hC, Below.refl _ _, rfl⟩
      intro vY_32 WY_32 hBY_32 hgY_32 hall
      simp [upto, Act.put]
      clear hall
      have hEY_32 := hidS (hL3.out.trans (hBY_32 w.heap.size (by omega)))
      have hcY_32 := loadVar_blk (P := Try.prog) hgY_32 Try.underlying36 rfl (by kernel_rfl)
      clear hBY_32 hgY_32 hL3 hGF3 hGP3 hGR3
      go_wp2_with fail
      exact bodyPost_ret (v := .agg #[.int .i64 fo.proto, .int .i64 fo.src, .int .i64 fo.sport, .int .i64 fo.dst, .int .i64 fo.dport, .int .i64 fo.kind, .int .i64 fb.proto, .int .i64 fb.src, .int .i64 fb.sport, .int .i64 fb.dst, .int .i64 fb.dport, .int .i64 fb.kind, .int .i64 fs, .bool b, .bool false, .int .i64 tl, .int .i64 (fc + 1), .int .i64 0]) (results_cell Try.results36 rfl hcY_32) rfl ⟨by rw [EX.out, EC.out] ; first | done | rfl, hEY_32.out⟩
    · have EX := hidS (flowX_yes now ⟨fo, fb, fs, b, true, ft, fc⟩ EC.out (HLED.out.trans (by simp)))
      have cP0 := blk_cell hGP0.out 0
      have cP1 := blk_cell hGP0.out 1
      have cP2 := blk_cell hGP0.out 2
      have cP3 := blk_cell hGP0.out 3
      have cP4 := blk_cell hGP0.out 4
      have cP5 := blk_cell hGP0.out 5
      have cP6 := blk_cell hGP0.out 6
      have cP7 := blk_cell hGP0.out 7
      have cP8 := blk_cell hGP0.out 8
      have cP9 := blk_cell hGP0.out 9
      simp at cP0 cP1 cP2 cP3 cP4 cP5 cP6 cP7 cP8 cP9
      have cF0 := blk_cell hGF0.out 0
      have cF1 := blk_cell hGF0.out 1
      have cF2 := blk_cell hGF0.out 2
      have cF3 := blk_cell hGF0.out 3
      have cF4 := blk_cell hGF0.out 4
      have cF5 := blk_cell hGF0.out 5
      have cF6 := blk_cell hGF0.out 6
      have cF7 := blk_cell hGF0.out 7
      have cF8 := blk_cell hGF0.out 8
      have cF9 := blk_cell hGF0.out 9
      have cF10 := blk_cell hGF0.out 10
      have cF11 := blk_cell hGF0.out 11
      have cF12 := blk_cell hGF0.out 12
      have cF13 := blk_cell hGF0.out 13
      have cF14 := blk_cell hGF0.out 14
      have cF15 := blk_cell hGF0.out 15
      have cF16 := blk_cell hGF0.out 16
      simp at cF0 cF1 cF2 cF3 cF4 cF5 cF6 cF7 cF8 cF9 cF10 cF11 cF12 cF13 cF14 cF15 cF16
      have kF := blk_cell hGF0.out
      have fF := blk_free hGF0.out
      go_upto_region 10 with fail
      clear cP0 cP1 cP2 cP3 cP4 cP5 cP6 cP7 cP8 cP9 cF0 cF1 cF2 cF3 cF4 cF5 cF6 cF7 cF8 cF9 cF10 cF11 cF12 cF13 cF14 cF15 cF16 kF fF
      have hGF1 : Hid (((w0.setCell ⟨w.heap.size, 13, none⟩ (.bool b)).setCell ⟨w.heap.size, 14, none⟩ (.bool true)).heap[w.heap.size]? = some (.cells #[.int .i64 fo.proto, .int .i64 fo.src, .int .i64 fo.sport, .int .i64 fo.dst, .int .i64 fo.dport, .int .i64 fo.kind, .int .i64 fb.proto, .int .i64 fb.src, .int .i64 fb.sport, .int .i64 fb.dst, .int .i64 fb.dport, .int .i64 fb.kind, .int .i64 fs, .bool b, .bool true, .int .i64 ft, .int .i64 fc] 29)) := by
        have := (blk_set (blk_set hGF0.out 13 (.bool b)) 14 (.bool true))
        exact this
      have hGP1 := hidS (blk_other (B := w.heap.size) (blk_other (B := w.heap.size) hGP0.out (by omega) 13 (.bool b)) (by omega) 14 (.bool true))
      have hGR1 := hidS (blk_other (B := w.heap.size) (blk_other (B := w.heap.size) hGR0.out (by omega) 13 (.bool b)) (by omega) 14 (.bool true))
      have hL1 := hidS (below_at (k := 14) (b := w.heap.size) (v := .bool true) (below_at (k := 13) (b := w.heap.size) (v := .bool b) hL0.out (by omega)) (by omega))
      clear hL0 hGF0 hGP0 hGR0
      generalize ((w0.setCell ⟨w.heap.size, 13, none⟩ (.bool b)).setCell ⟨w.heap.size, 14, none⟩ (.bool true)) = w1 at hGF1 hGP1 hGR1 hL1 ⊢
      go_wp2_with (first | refine wpList_load_blk 29 (.tmp 4) rfl rfl rfl hGF1.out Try.underlying29 rfl (by kernel_rfl) ?_)
      refine (HU.out ⟨fo, fb, fs, b, true, ft, fc⟩ _).mono ?_
      rintro _ w2 ⟨rfl, hb2⟩
      have hGF2 := hidS (blk_later hGF1.out hb2)
      have hGP2 := hidS (blk_later hGP1.out hb2)
      have hGR2 := hidS (blk_later hGR1.out hb2)
      have hL2 := hidS (hL1.out.trans (hb2.mono hL1.out.size))
      clear hb2 hL1 hGF1 hGP1 hGR1
      generalize hTL : tillF ⟨fo, fb, fs, b, true, ft, fc⟩ now = tl at *
      have cF0 := blk_cell hGF2.out 0
      have cF1 := blk_cell hGF2.out 1
      have cF2 := blk_cell hGF2.out 2
      have cF3 := blk_cell hGF2.out 3
      have cF4 := blk_cell hGF2.out 4
      have cF5 := blk_cell hGF2.out 5
      have cF6 := blk_cell hGF2.out 6
      have cF7 := blk_cell hGF2.out 7
      have cF8 := blk_cell hGF2.out 8
      have cF9 := blk_cell hGF2.out 9
      have cF10 := blk_cell hGF2.out 10
      have cF11 := blk_cell hGF2.out 11
      have cF12 := blk_cell hGF2.out 12
      have cF13 := blk_cell hGF2.out 13
      have cF14 := blk_cell hGF2.out 14
      have cF15 := blk_cell hGF2.out 15
      have cF16 := blk_cell hGF2.out 16
      simp at cF0 cF1 cF2 cF3 cF4 cF5 cF6 cF7 cF8 cF9 cF10 cF11 cF12 cF13 cF14 cF15 cF16
      have kF := blk_cell hGF2.out
      have fF := blk_free hGF2.out
      go_upto_region 12 with fail
      clear cF0 cF1 cF2 cF3 cF4 cF5 cF6 cF7 cF8 cF9 cF10 cF11 cF12 cF13 cF14 cF15 cF16 kF fF
      have hGF3 : Hid (((w2.setCell ⟨w.heap.size, 15, none⟩ (.int .i64 tl)).setCell ⟨w.heap.size, 16, none⟩ (.int .i64 (fc + 1))).heap[w.heap.size]? = some (.cells #[.int .i64 fo.proto, .int .i64 fo.src, .int .i64 fo.sport, .int .i64 fo.dst, .int .i64 fo.dport, .int .i64 fo.kind, .int .i64 fb.proto, .int .i64 fb.src, .int .i64 fb.sport, .int .i64 fb.dst, .int .i64 fb.dport, .int .i64 fb.kind, .int .i64 fs, .bool b, .bool true, .int .i64 tl, .int .i64 (fc + 1)] 29)) := by
        have := (blk_set (blk_set hGF2.out 15 (.int .i64 tl)) 16 (.int .i64 (fc + 1)))
        exact this
      have hGP3 := hidS (blk_other (B := w.heap.size) (blk_other (B := w.heap.size) hGP2.out (by omega) 15 (.int .i64 tl)) (by omega) 16 (.int .i64 (fc + 1)))
      have hGR3 := hidS (blk_other (B := w.heap.size) (blk_other (B := w.heap.size) hGR2.out (by omega) 15 (.int .i64 tl)) (by omega) 16 (.int .i64 (fc + 1)))
      have hL3 := hidS (below_at (k := 16) (b := w.heap.size) (v := .int .i64 (fc + 1)) (below_at (k := 15) (b := w.heap.size) (v := .int .i64 tl) hL2.out (by omega)) (by omega))
      clear hL2 hGF2 hGP2 hGR2
      generalize ((w2.setCell ⟨w.heap.size, 15, none⟩ (.int .i64 tl)).setCell ⟨w.heap.size, 16, none⟩ (.int .i64 (fc + 1))) = w3 at hGF3 hGP3 hGR3 hL3 ⊢
      refine plain_into 2 _ [.is (.agg #[.int .i64 fo.proto, .int .i64 fo.src, .int .i64 fo.sport, .int .i64 fo.dst, .int .i64 fo.dport, .int .i64 fo.kind, .int .i64 fb.proto, .int .i64 fb.src, .int .i64 fb.sport, .int .i64 fb.dst, .int .i64 fb.dport, .int .i64 fb.kind, .int .i64 fs, .bool b, .bool true, .int .i64 tl, .int .i64 (fc + 1)]), .is (.agg #[.int .i64 fo.proto, .int .i64 fo.src, .int .i64 fo.sport, .int .i64 fo.dst, .int .i64 fo.dport, .int .i64 fo.kind, .int .i64 fb.proto, .int .i64 fb.src, .int .i64 fb.sport, .int .i64 fb.dst, .int .i64 fb.dport, .int .i64 fb.kind, .int .i64 fs, .bool b, .bool true, .int .i64 tl, .int .i64 (fc + 1), .int .i64 0])] 1 8 74 36 36 (w.heap.size + 2) #[.int .i64 0, .int .i64 0, .int .i64 0, .int .i64 0, .int .i64 0, .int .i64 0, .int .i64 0, .int .i64 0, .int .i64 0, .int .i64 0, .int .i64 0, .int .i64 0, .int .i64 0, .bool false, .bool false, .int .i64 0, .int .i64 0, .int .i64 0] #[.int .i64 fo.proto, .int .i64 fo.src, .int .i64 fo.sport, .int .i64 fo.dst, .int .i64 fo.dport, .int .i64 fo.kind, .int .i64 fb.proto, .int .i64 fb.src, .int .i64 fb.sport, .int .i64 fb.dst, .int .i64 fb.dport, .int .i64 fb.kind, .int .i64 fs, .bool b, .bool true, .int .i64 tl, .int .i64 (fc + 1), .int .i64 0] rfl rfl rfl (by kernel_rfl) (by kernel_rfl) (by kernel_rfl) rfl rfl (by decide) (by kernel_rfl) (by kernel_rfl) (by decide) hGR3.out (by kernel_rfl) (by kernel_rfl) (by first | kernel_rfl | simp [Value.oneCell']) (by kernel_rfl) ?stepsY_33 ?finY_33
      case stepsY_33 =>
        refine ⟨?_, ?_, trivial⟩
        · refine ⟨rfl, fun v W ρ hC kc kf ks ki kd => ?_⟩
          have t4 : ρ (.tmp 4) = .pointer (some ⟨w.heap.size, 0, none⟩) := ki 4 (by decide)
          simp only [execOp, t4, Sem.run_bind, loadAt_part (o := 0) [.int .i64 fo.proto, .int .i64 fo.src, .int .i64 fo.sport, .int .i64 fo.dst, .int .i64 fo.dport, .int .i64 fo.kind, .int .i64 fb.proto, .int .i64 fb.src, .int .i64 fb.sport, .int .i64 fb.dst, .int .i64 fb.dport, .int .i64 fb.kind, .int .i64 fs, .bool b, .bool true, .int .i64 tl, .int .i64 (fc + 1)] (blk_later hGF3.out hC) rfl Try.underlying29 rfl (by kernel_rfl), Result.andThen_ok, Sem.run_pure]
          exact ⟨hC, Below.refl _ _, rfl⟩
        · refine ⟨rfl, fun v W ρ hC kc kf ks ki kd => ?_⟩
          have d0 : v 0 = .agg #[.int .i64 fo.proto, .int .i64 fo.src, .int .i64 fo.sport, .int .i64 fo.dst, .int .i64 fo.dport, .int .i64 fo.kind, .int .i64 fb.proto, .int .i64 fb.src, .int .i64 fb.sport, .int .i64 fb.dst, .int .i64 fb.dport, .int .i64 fb.kind, .int .i64 fs, .bool b, .bool true, .int .i64 tl, .int .i64 (fc + 1)] := by first | exact kd _ (mem0 rfl) rfl | exact kd _ (mem1 rfl) rfl | exact kd _ (mem2 rfl) rfl | exact kd _ (mem3 rfl) rfl | exact kd _ (mem4 rfl) rfl | exact kd _ (mem5 rfl) rfl | exact kd _ (Array.mem_of_getElem? (i := 6) rfl) rfl | exact kd _ (Array.mem_of_getElem? (i := 7) rfl) rfl
          have t73 : ρ (.tmp 73) = .agg #[.int .i64 fo.proto, .int .i64 fo.src, .int .i64 fo.sport, .int .i64 fo.dst, .int .i64 fo.dport, .int .i64 fo.kind, .int .i64 fb.proto, .int .i64 fb.src, .int .i64 fb.sport, .int .i64 fb.dst, .int .i64 fb.dport, .int .i64 fb.kind, .int .i64 fs, .bool b, .bool true, .int .i64 tl, .int .i64 (fc + 1)] := (ks 0 73 (by decide) rfl).trans d0
          simp [execOp, go_sem, kc, t73]
          exact ⟨hC, Below.refl _ _, rfl⟩
      intro vY_33 WY_33 hBY_33 hgY_33 hall
      simp [upto, Act.put]
      clear hall
      have hEY_33 := hidS (hL3.out.trans (hBY_33 w.heap.size (by omega)))
      have hcY_33 := loadVar_blk (P := Try.prog) hgY_33 Try.underlying36 rfl (by kernel_rfl)
      clear hBY_33 hgY_33 hL3 hGF3 hGP3 hGR3
      go_wp2_with fail
      exact bodyPost_ret (v := .agg #[.int .i64 fo.proto, .int .i64 fo.src, .int .i64 fo.sport, .int .i64 fo.dst, .int .i64 fo.dport, .int .i64 fo.kind, .int .i64 fb.proto, .int .i64 fb.src, .int .i64 fb.sport, .int .i64 fb.dst, .int .i64 fb.dport, .int .i64 fb.kind, .int .i64 fs, .bool b, .bool true, .int .i64 tl, .int .i64 (fc + 1), .int .i64 0]) (results_cell Try.results36 rfl hcY_33) rfl ⟨by rw [EX.out, EC.out] ; first | done | rfl, hEY_33.out⟩
  · cases fu
    · have EX := hidS (flowX_yes now ⟨fo, fb, fs, true, false, ft, fc⟩ EC.out (HLED.out.trans (by simp)))
      have cP0 := blk_cell hGP0.out 0
      have cP1 := blk_cell hGP0.out 1
      have cP2 := blk_cell hGP0.out 2
      have cP3 := blk_cell hGP0.out 3
      have cP4 := blk_cell hGP0.out 4
      have cP5 := blk_cell hGP0.out 5
      have cP6 := blk_cell hGP0.out 6
      have cP7 := blk_cell hGP0.out 7
      have cP8 := blk_cell hGP0.out 8
      have cP9 := blk_cell hGP0.out 9
      simp at cP0 cP1 cP2 cP3 cP4 cP5 cP6 cP7 cP8 cP9
      have cF0 := blk_cell hGF0.out 0
      have cF1 := blk_cell hGF0.out 1
      have cF2 := blk_cell hGF0.out 2
      have cF3 := blk_cell hGF0.out 3
      have cF4 := blk_cell hGF0.out 4
      have cF5 := blk_cell hGF0.out 5
      have cF6 := blk_cell hGF0.out 6
      have cF7 := blk_cell hGF0.out 7
      have cF8 := blk_cell hGF0.out 8
      have cF9 := blk_cell hGF0.out 9
      have cF10 := blk_cell hGF0.out 10
      have cF11 := blk_cell hGF0.out 11
      have cF12 := blk_cell hGF0.out 12
      have cF13 := blk_cell hGF0.out 13
      have cF14 := blk_cell hGF0.out 14
      have cF15 := blk_cell hGF0.out 15
      have cF16 := blk_cell hGF0.out 16
      simp at cF0 cF1 cF2 cF3 cF4 cF5 cF6 cF7 cF8 cF9 cF10 cF11 cF12 cF13 cF14 cF15 cF16
      have kF := blk_cell hGF0.out
      have fF := blk_free hGF0.out
      go_upto_region 10 with fail
      clear cP0 cP1 cP2 cP3 cP4 cP5 cP6 cP7 cP8 cP9 cF0 cF1 cF2 cF3 cF4 cF5 cF6 cF7 cF8 cF9 cF10 cF11 cF12 cF13 cF14 cF15 cF16 kF fF
      have hGF1 : Hid (((w0.setCell ⟨w.heap.size, 13, none⟩ (.bool true)).setCell ⟨w.heap.size, 14, none⟩ (.bool false)).heap[w.heap.size]? = some (.cells #[.int .i64 fo.proto, .int .i64 fo.src, .int .i64 fo.sport, .int .i64 fo.dst, .int .i64 fo.dport, .int .i64 fo.kind, .int .i64 fb.proto, .int .i64 fb.src, .int .i64 fb.sport, .int .i64 fb.dst, .int .i64 fb.dport, .int .i64 fb.kind, .int .i64 fs, .bool true, .bool false, .int .i64 ft, .int .i64 fc] 29)) := by
        have := (blk_set (blk_set hGF0.out 13 (.bool true)) 14 (.bool false))
        exact this
      have hGP1 := hidS (blk_other (B := w.heap.size) (blk_other (B := w.heap.size) hGP0.out (by omega) 13 (.bool true)) (by omega) 14 (.bool false))
      have hGR1 := hidS (blk_other (B := w.heap.size) (blk_other (B := w.heap.size) hGR0.out (by omega) 13 (.bool true)) (by omega) 14 (.bool false))
      have hL1 := hidS (below_at (k := 14) (b := w.heap.size) (v := .bool false) (below_at (k := 13) (b := w.heap.size) (v := .bool true) hL0.out (by omega)) (by omega))
      clear hL0 hGF0 hGP0 hGR0
      generalize ((w0.setCell ⟨w.heap.size, 13, none⟩ (.bool true)).setCell ⟨w.heap.size, 14, none⟩ (.bool false)) = w1 at hGF1 hGP1 hGR1 hL1 ⊢
      go_wp2_with (first | refine wpList_load_blk 29 (.tmp 4) rfl rfl rfl hGF1.out Try.underlying29 rfl (by kernel_rfl) ?_)
      refine (HU.out ⟨fo, fb, fs, true, false, ft, fc⟩ _).mono ?_
      rintro _ w2 ⟨rfl, hb2⟩
      have hGF2 := hidS (blk_later hGF1.out hb2)
      have hGP2 := hidS (blk_later hGP1.out hb2)
      have hGR2 := hidS (blk_later hGR1.out hb2)
      have hL2 := hidS (hL1.out.trans (hb2.mono hL1.out.size))
      clear hb2 hL1 hGF1 hGP1 hGR1
      generalize hTL : tillF ⟨fo, fb, fs, true, false, ft, fc⟩ now = tl at *
      have cF0 := blk_cell hGF2.out 0
      have cF1 := blk_cell hGF2.out 1
      have cF2 := blk_cell hGF2.out 2
      have cF3 := blk_cell hGF2.out 3
      have cF4 := blk_cell hGF2.out 4
      have cF5 := blk_cell hGF2.out 5
      have cF6 := blk_cell hGF2.out 6
      have cF7 := blk_cell hGF2.out 7
      have cF8 := blk_cell hGF2.out 8
      have cF9 := blk_cell hGF2.out 9
      have cF10 := blk_cell hGF2.out 10
      have cF11 := blk_cell hGF2.out 11
      have cF12 := blk_cell hGF2.out 12
      have cF13 := blk_cell hGF2.out 13
      have cF14 := blk_cell hGF2.out 14
      have cF15 := blk_cell hGF2.out 15
      have cF16 := blk_cell hGF2.out 16
      simp at cF0 cF1 cF2 cF3 cF4 cF5 cF6 cF7 cF8 cF9 cF10 cF11 cF12 cF13 cF14 cF15 cF16
      have kF := blk_cell hGF2.out
      have fF := blk_free hGF2.out
      go_upto_region 12 with fail
      clear cF0 cF1 cF2 cF3 cF4 cF5 cF6 cF7 cF8 cF9 cF10 cF11 cF12 cF13 cF14 cF15 cF16 kF fF
      have hGF3 : Hid (((w2.setCell ⟨w.heap.size, 15, none⟩ (.int .i64 tl)).setCell ⟨w.heap.size, 16, none⟩ (.int .i64 (fc + 1))).heap[w.heap.size]? = some (.cells #[.int .i64 fo.proto, .int .i64 fo.src, .int .i64 fo.sport, .int .i64 fo.dst, .int .i64 fo.dport, .int .i64 fo.kind, .int .i64 fb.proto, .int .i64 fb.src, .int .i64 fb.sport, .int .i64 fb.dst, .int .i64 fb.dport, .int .i64 fb.kind, .int .i64 fs, .bool true, .bool false, .int .i64 tl, .int .i64 (fc + 1)] 29)) := by
        have := (blk_set (blk_set hGF2.out 15 (.int .i64 tl)) 16 (.int .i64 (fc + 1)))
        exact this
      have hGP3 := hidS (blk_other (B := w.heap.size) (blk_other (B := w.heap.size) hGP2.out (by omega) 15 (.int .i64 tl)) (by omega) 16 (.int .i64 (fc + 1)))
      have hGR3 := hidS (blk_other (B := w.heap.size) (blk_other (B := w.heap.size) hGR2.out (by omega) 15 (.int .i64 tl)) (by omega) 16 (.int .i64 (fc + 1)))
      have hL3 := hidS (below_at (k := 16) (b := w.heap.size) (v := .int .i64 (fc + 1)) (below_at (k := 15) (b := w.heap.size) (v := .int .i64 tl) hL2.out (by omega)) (by omega))
      clear hL2 hGF2 hGP2 hGR2
      generalize ((w2.setCell ⟨w.heap.size, 15, none⟩ (.int .i64 tl)).setCell ⟨w.heap.size, 16, none⟩ (.int .i64 (fc + 1))) = w3 at hGF3 hGP3 hGR3 hL3 ⊢
      refine plain_into 2 _ [.is (.agg #[.int .i64 fo.proto, .int .i64 fo.src, .int .i64 fo.sport, .int .i64 fo.dst, .int .i64 fo.dport, .int .i64 fo.kind, .int .i64 fb.proto, .int .i64 fb.src, .int .i64 fb.sport, .int .i64 fb.dst, .int .i64 fb.dport, .int .i64 fb.kind, .int .i64 fs, .bool true, .bool false, .int .i64 tl, .int .i64 (fc + 1)]), .is (.agg #[.int .i64 fo.proto, .int .i64 fo.src, .int .i64 fo.sport, .int .i64 fo.dst, .int .i64 fo.dport, .int .i64 fo.kind, .int .i64 fb.proto, .int .i64 fb.src, .int .i64 fb.sport, .int .i64 fb.dst, .int .i64 fb.dport, .int .i64 fb.kind, .int .i64 fs, .bool true, .bool false, .int .i64 tl, .int .i64 (fc + 1), .int .i64 0])] 1 8 74 36 36 (w.heap.size + 2) #[.int .i64 0, .int .i64 0, .int .i64 0, .int .i64 0, .int .i64 0, .int .i64 0, .int .i64 0, .int .i64 0, .int .i64 0, .int .i64 0, .int .i64 0, .int .i64 0, .int .i64 0, .bool false, .bool false, .int .i64 0, .int .i64 0, .int .i64 0] #[.int .i64 fo.proto, .int .i64 fo.src, .int .i64 fo.sport, .int .i64 fo.dst, .int .i64 fo.dport, .int .i64 fo.kind, .int .i64 fb.proto, .int .i64 fb.src, .int .i64 fb.sport, .int .i64 fb.dst, .int .i64 fb.dport, .int .i64 fb.kind, .int .i64 fs, .bool true, .bool false, .int .i64 tl, .int .i64 (fc + 1), .int .i64 0] rfl rfl rfl (by kernel_rfl) (by kernel_rfl) (by kernel_rfl) rfl rfl (by decide) (by kernel_rfl) (by kernel_rfl) (by decide) hGR3.out (by kernel_rfl) (by kernel_rfl) (by first | kernel_rfl | simp [Value.oneCell']) (by kernel_rfl) ?stepsY_34 ?finY_34
      case stepsY_34 =>
        refine ⟨?_, ?_, trivial⟩
        · refine ⟨rfl, fun v W ρ hC kc kf ks ki kd => ?_⟩
          have t4 : ρ (.tmp 4) = .pointer (some ⟨w.heap.size, 0, none⟩) := ki 4 (by decide)
          simp only [execOp, t4, Sem.run_bind, loadAt_part (o := 0) [.int .i64 fo.proto, .int .i64 fo.src, .int .i64 fo.sport, .int .i64 fo.dst, .int .i64 fo.dport, .int .i64 fo.kind, .int .i64 fb.proto, .int .i64 fb.src, .int .i64 fb.sport, .int .i64 fb.dst, .int .i64 fb.dport, .int .i64 fb.kind, .int .i64 fs, .bool true, .bool false, .int .i64 tl, .int .i64 (fc + 1)] (blk_later hGF3.out hC) rfl Try.underlying29 rfl (by kernel_rfl), Result.andThen_ok, Sem.run_pure]
          exact ⟨hC, Below.refl _ _, rfl⟩
        · refine ⟨rfl, fun v W ρ hC kc kf ks ki kd => ?_⟩
          have d0 : v 0 = .agg #[.int .i64 fo.proto, .int .i64 fo.src, .int .i64 fo.sport, .int .i64 fo.dst, .int .i64 fo.dport, .int .i64 fo.kind, .int .i64 fb.proto, .int .i64 fb.src, .int .i64 fb.sport, .int .i64 fb.dst, .int .i64 fb.dport, .int .i64 fb.kind, .int .i64 fs, .bool true, .bool false, .int .i64 tl, .int .i64 (fc + 1)] := by first | exact kd _ (mem0 rfl) rfl | exact kd _ (mem1 rfl) rfl | exact kd _ (mem2 rfl) rfl | exact kd _ (mem3 rfl) rfl | exact kd _ (mem4 rfl) rfl | exact kd _ (mem5 rfl) rfl | exact kd _ (Array.mem_of_getElem? (i := 6) rfl) rfl | exact kd _ (Array.mem_of_getElem? (i := 7) rfl) rfl
          have t73 : ρ (.tmp 73) = .agg #[.int .i64 fo.proto, .int .i64 fo.src, .int .i64 fo.sport, .int .i64 fo.dst, .int .i64 fo.dport, .int .i64 fo.kind, .int .i64 fb.proto, .int .i64 fb.src, .int .i64 fb.sport, .int .i64 fb.dst, .int .i64 fb.dport, .int .i64 fb.kind, .int .i64 fs, .bool true, .bool false, .int .i64 tl, .int .i64 (fc + 1)] := (ks 0 73 (by decide) rfl).trans d0
          simp [execOp, go_sem, kc, t73]
          exact ⟨hC, Below.refl _ _, rfl⟩
      intro vY_34 WY_34 hBY_34 hgY_34 hall
      simp [upto, Act.put]
      clear hall
      have hEY_34 := hidS (hL3.out.trans (hBY_34 w.heap.size (by omega)))
      have hcY_34 := loadVar_blk (P := Try.prog) hgY_34 Try.underlying36 rfl (by kernel_rfl)
      clear hBY_34 hgY_34 hL3 hGF3 hGP3 hGR3
      go_wp2_with fail
      exact bodyPost_ret (v := .agg #[.int .i64 fo.proto, .int .i64 fo.src, .int .i64 fo.sport, .int .i64 fo.dst, .int .i64 fo.dport, .int .i64 fo.kind, .int .i64 fb.proto, .int .i64 fb.src, .int .i64 fb.sport, .int .i64 fb.dst, .int .i64 fb.dport, .int .i64 fb.kind, .int .i64 fs, .bool true, .bool false, .int .i64 tl, .int .i64 (fc + 1), .int .i64 0]) (results_cell Try.results36 rfl hcY_34) rfl ⟨by rw [EX.out, EC.out] ; first | done | rfl, hEY_34.out⟩
    · have EX := hidS (flowX_yes now ⟨fo, fb, fs, true, true, ft, fc⟩ EC.out (HLED.out.trans (by simp)))
      have cP0 := blk_cell hGP0.out 0
      have cP1 := blk_cell hGP0.out 1
      have cP2 := blk_cell hGP0.out 2
      have cP3 := blk_cell hGP0.out 3
      have cP4 := blk_cell hGP0.out 4
      have cP5 := blk_cell hGP0.out 5
      have cP6 := blk_cell hGP0.out 6
      have cP7 := blk_cell hGP0.out 7
      have cP8 := blk_cell hGP0.out 8
      have cP9 := blk_cell hGP0.out 9
      simp at cP0 cP1 cP2 cP3 cP4 cP5 cP6 cP7 cP8 cP9
      have cF0 := blk_cell hGF0.out 0
      have cF1 := blk_cell hGF0.out 1
      have cF2 := blk_cell hGF0.out 2
      have cF3 := blk_cell hGF0.out 3
      have cF4 := blk_cell hGF0.out 4
      have cF5 := blk_cell hGF0.out 5
      have cF6 := blk_cell hGF0.out 6
      have cF7 := blk_cell hGF0.out 7
      have cF8 := blk_cell hGF0.out 8
      have cF9 := blk_cell hGF0.out 9
      have cF10 := blk_cell hGF0.out 10
      have cF11 := blk_cell hGF0.out 11
      have cF12 := blk_cell hGF0.out 12
      have cF13 := blk_cell hGF0.out 13
      have cF14 := blk_cell hGF0.out 14
      have cF15 := blk_cell hGF0.out 15
      have cF16 := blk_cell hGF0.out 16
      simp at cF0 cF1 cF2 cF3 cF4 cF5 cF6 cF7 cF8 cF9 cF10 cF11 cF12 cF13 cF14 cF15 cF16
      have kF := blk_cell hGF0.out
      have fF := blk_free hGF0.out
      go_upto_region 10 with fail
      clear cP0 cP1 cP2 cP3 cP4 cP5 cP6 cP7 cP8 cP9 cF0 cF1 cF2 cF3 cF4 cF5 cF6 cF7 cF8 cF9 cF10 cF11 cF12 cF13 cF14 cF15 cF16 kF fF
      have hGF1 : Hid (((w0.setCell ⟨w.heap.size, 13, none⟩ (.bool true)).setCell ⟨w.heap.size, 14, none⟩ (.bool true)).heap[w.heap.size]? = some (.cells #[.int .i64 fo.proto, .int .i64 fo.src, .int .i64 fo.sport, .int .i64 fo.dst, .int .i64 fo.dport, .int .i64 fo.kind, .int .i64 fb.proto, .int .i64 fb.src, .int .i64 fb.sport, .int .i64 fb.dst, .int .i64 fb.dport, .int .i64 fb.kind, .int .i64 fs, .bool true, .bool true, .int .i64 ft, .int .i64 fc] 29)) := by
        have := (blk_set (blk_set hGF0.out 13 (.bool true)) 14 (.bool true))
        exact this
      have hGP1 := hidS (blk_other (B := w.heap.size) (blk_other (B := w.heap.size) hGP0.out (by omega) 13 (.bool true)) (by omega) 14 (.bool true))
      have hGR1 := hidS (blk_other (B := w.heap.size) (blk_other (B := w.heap.size) hGR0.out (by omega) 13 (.bool true)) (by omega) 14 (.bool true))
      have hL1 := hidS (below_at (k := 14) (b := w.heap.size) (v := .bool true) (below_at (k := 13) (b := w.heap.size) (v := .bool true) hL0.out (by omega)) (by omega))
      clear hL0 hGF0 hGP0 hGR0
      generalize ((w0.setCell ⟨w.heap.size, 13, none⟩ (.bool true)).setCell ⟨w.heap.size, 14, none⟩ (.bool true)) = w1 at hGF1 hGP1 hGR1 hL1 ⊢
      go_wp2_with (first | refine wpList_load_blk 29 (.tmp 4) rfl rfl rfl hGF1.out Try.underlying29 rfl (by kernel_rfl) ?_)
      refine (HU.out ⟨fo, fb, fs, true, true, ft, fc⟩ _).mono ?_
      rintro _ w2 ⟨rfl, hb2⟩
      have hGF2 := hidS (blk_later hGF1.out hb2)
      have hGP2 := hidS (blk_later hGP1.out hb2)
      have hGR2 := hidS (blk_later hGR1.out hb2)
      have hL2 := hidS (hL1.out.trans (hb2.mono hL1.out.size))
      clear hb2 hL1 hGF1 hGP1 hGR1
      generalize hTL : tillF ⟨fo, fb, fs, true, true, ft, fc⟩ now = tl at *
      have cF0 := blk_cell hGF2.out 0
      have cF1 := blk_cell hGF2.out 1
      have cF2 := blk_cell hGF2.out 2
      have cF3 := blk_cell hGF2.out 3
      have cF4 := blk_cell hGF2.out 4
      have cF5 := blk_cell hGF2.out 5
      have cF6 := blk_cell hGF2.out 6
      have cF7 := blk_cell hGF2.out 7
      have cF8 := blk_cell hGF2.out 8
      have cF9 := blk_cell hGF2.out 9
      have cF10 := blk_cell hGF2.out 10
      have cF11 := blk_cell hGF2.out 11
      have cF12 := blk_cell hGF2.out 12
      have cF13 := blk_cell hGF2.out 13
      have cF14 := blk_cell hGF2.out 14
      have cF15 := blk_cell hGF2.out 15
      have cF16 := blk_cell hGF2.out 16
      simp at cF0 cF1 cF2 cF3 cF4 cF5 cF6 cF7 cF8 cF9 cF10 cF11 cF12 cF13 cF14 cF15 cF16
      have kF := blk_cell hGF2.out
      have fF := blk_free hGF2.out
      go_upto_region 12 with fail
      clear cF0 cF1 cF2 cF3 cF4 cF5 cF6 cF7 cF8 cF9 cF10 cF11 cF12 cF13 cF14 cF15 cF16 kF fF
      have hGF3 : Hid (((w2.setCell ⟨w.heap.size, 15, none⟩ (.int .i64 tl)).setCell ⟨w.heap.size, 16, none⟩ (.int .i64 (fc + 1))).heap[w.heap.size]? = some (.cells #[.int .i64 fo.proto, .int .i64 fo.src, .int .i64 fo.sport, .int .i64 fo.dst, .int .i64 fo.dport, .int .i64 fo.kind, .int .i64 fb.proto, .int .i64 fb.src, .int .i64 fb.sport, .int .i64 fb.dst, .int .i64 fb.dport, .int .i64 fb.kind, .int .i64 fs, .bool true, .bool true, .int .i64 tl, .int .i64 (fc + 1)] 29)) := by
        have := (blk_set (blk_set hGF2.out 15 (.int .i64 tl)) 16 (.int .i64 (fc + 1)))
        exact this
      have hGP3 := hidS (blk_other (B := w.heap.size) (blk_other (B := w.heap.size) hGP2.out (by omega) 15 (.int .i64 tl)) (by omega) 16 (.int .i64 (fc + 1)))
      have hGR3 := hidS (blk_other (B := w.heap.size) (blk_other (B := w.heap.size) hGR2.out (by omega) 15 (.int .i64 tl)) (by omega) 16 (.int .i64 (fc + 1)))
      have hL3 := hidS (below_at (k := 16) (b := w.heap.size) (v := .int .i64 (fc + 1)) (below_at (k := 15) (b := w.heap.size) (v := .int .i64 tl) hL2.out (by omega)) (by omega))
      clear hL2 hGF2 hGP2 hGR2
      generalize ((w2.setCell ⟨w.heap.size, 15, none⟩ (.int .i64 tl)).setCell ⟨w.heap.size, 16, none⟩ (.int .i64 (fc + 1))) = w3 at hGF3 hGP3 hGR3 hL3 ⊢
      refine plain_into 2 _ [.is (.agg #[.int .i64 fo.proto, .int .i64 fo.src, .int .i64 fo.sport, .int .i64 fo.dst, .int .i64 fo.dport, .int .i64 fo.kind, .int .i64 fb.proto, .int .i64 fb.src, .int .i64 fb.sport, .int .i64 fb.dst, .int .i64 fb.dport, .int .i64 fb.kind, .int .i64 fs, .bool true, .bool true, .int .i64 tl, .int .i64 (fc + 1)]), .is (.agg #[.int .i64 fo.proto, .int .i64 fo.src, .int .i64 fo.sport, .int .i64 fo.dst, .int .i64 fo.dport, .int .i64 fo.kind, .int .i64 fb.proto, .int .i64 fb.src, .int .i64 fb.sport, .int .i64 fb.dst, .int .i64 fb.dport, .int .i64 fb.kind, .int .i64 fs, .bool true, .bool true, .int .i64 tl, .int .i64 (fc + 1), .int .i64 0])] 1 8 74 36 36 (w.heap.size + 2) #[.int .i64 0, .int .i64 0, .int .i64 0, .int .i64 0, .int .i64 0, .int .i64 0, .int .i64 0, .int .i64 0, .int .i64 0, .int .i64 0, .int .i64 0, .int .i64 0, .int .i64 0, .bool false, .bool false, .int .i64 0, .int .i64 0, .int .i64 0] #[.int .i64 fo.proto, .int .i64 fo.src, .int .i64 fo.sport, .int .i64 fo.dst, .int .i64 fo.dport, .int .i64 fo.kind, .int .i64 fb.proto, .int .i64 fb.src, .int .i64 fb.sport, .int .i64 fb.dst, .int .i64 fb.dport, .int .i64 fb.kind, .int .i64 fs, .bool true, .bool true, .int .i64 tl, .int .i64 (fc + 1), .int .i64 0] rfl rfl rfl (by kernel_rfl) (by kernel_rfl) (by kernel_rfl) rfl rfl (by decide) (by kernel_rfl) (by kernel_rfl) (by decide) hGR3.out (by kernel_rfl) (by kernel_rfl) (by first | kernel_rfl | simp [Value.oneCell']) (by kernel_rfl) ?stepsY_35 ?finY_35
      case stepsY_35 =>
        refine ⟨?_, ?_, trivial⟩
        · refine ⟨rfl, fun v W ρ hC kc kf ks ki kd => ?_⟩
          have t4 : ρ (.tmp 4) = .pointer (some ⟨w.heap.size, 0, none⟩) := ki 4 (by decide)
          simp only [execOp, t4, Sem.run_bind, loadAt_part (o := 0) [.int .i64 fo.proto, .int .i64 fo.src, .int .i64 fo.sport, .int .i64 fo.dst, .int .i64 fo.dport, .int .i64 fo.kind, .int .i64 fb.proto, .int .i64 fb.src, .int .i64 fb.sport, .int .i64 fb.dst, .int .i64 fb.dport, .int .i64 fb.kind, .int .i64 fs, .bool true, .bool true, .int .i64 tl, .int .i64 (fc + 1)] (blk_later hGF3.out hC) rfl Try.underlying29 rfl (by kernel_rfl), Result.andThen_ok, Sem.run_pure]
          exact ⟨hC, Below.refl _ _, rfl⟩
        · refine ⟨rfl, fun v W ρ hC kc kf ks ki kd => ?_⟩
          have d0 : v 0 = .agg #[.int .i64 fo.proto, .int .i64 fo.src, .int .i64 fo.sport, .int .i64 fo.dst, .int .i64 fo.dport, .int .i64 fo.kind, .int .i64 fb.proto, .int .i64 fb.src, .int .i64 fb.sport, .int .i64 fb.dst, .int .i64 fb.dport, .int .i64 fb.kind, .int .i64 fs, .bool true, .bool true, .int .i64 tl, .int .i64 (fc + 1)] := by first | exact kd _ (mem0 rfl) rfl | exact kd _ (mem1 rfl) rfl | exact kd _ (mem2 rfl) rfl | exact kd _ (mem3 rfl) rfl | exact kd _ (mem4 rfl) rfl | exact kd _ (mem5 rfl) rfl | exact kd _ (Array.mem_of_getElem? (i := 6) rfl) rfl | exact kd _ (Array.mem_of_getElem? (i := 7) rfl) rfl
          have t73 : ρ (.tmp 73) = .agg #[.int .i64 fo.proto, .int .i64 fo.src, .int .i64 fo.sport, .int .i64 fo.dst, .int .i64 fo.dport, .int .i64 fo.kind, .int .i64 fb.proto, .int .i64 fb.src, .int .i64 fb.sport, .int .i64 fb.dst, .int .i64 fb.dport, .int .i64 fb.kind, .int .i64 fs, .bool true, .bool true, .int .i64 tl, .int .i64 (fc + 1)] := (ks 0 73 (by decide) rfl).trans d0
          simp [execOp, go_sem, kc, t73]
          exact ⟨hC, Below.refl _ _, rfl⟩
      intro vY_35 WY_35 hBY_35 hgY_35 hall
      simp [upto, Act.put]
      clear hall
      have hEY_35 := hidS (hL3.out.trans (hBY_35 w.heap.size (by omega)))
      have hcY_35 := loadVar_blk (P := Try.prog) hgY_35 Try.underlying36 rfl (by kernel_rfl)
      clear hBY_35 hgY_35 hL3 hGF3 hGP3 hGR3
      go_wp2_with fail
      exact bodyPost_ret (v := .agg #[.int .i64 fo.proto, .int .i64 fo.src, .int .i64 fo.sport, .int .i64 fo.dst, .int .i64 fo.dport, .int .i64 fo.kind, .int .i64 fb.proto, .int .i64 fb.src, .int .i64 fb.sport, .int .i64 fb.dst, .int .i64 fb.dport, .int .i64 fb.kind, .int .i64 fs, .bool true, .bool true, .int .i64 tl, .int .i64 (fc + 1), .int .i64 0]) (results_cell Try.results36 rfl hcY_35) rfl ⟨by rw [EX.out, EC.out] ; first | done | rfl, hEY_35.out⟩
theorem l09Next_any (f : Fl) (p : Pk) (b : Bool) (now : Int) (w : World) (h0 : 0 ≤ now ∧ now ≤ 1000000) (hc : 1 ≤ f.count ∧ f.count ≤ 1000000) :
    Calls Try.prog 36 #[.agg #[.int .i64 f.orig.proto, .int .i64 f.orig.src, .int .i64 f.orig.sport, .int .i64 f.orig.dst, .int .i64 f.orig.dport, .int .i64 f.orig.kind, .int .i64 f.back.proto, .int .i64 f.back.src, .int .i64 f.back.sport, .int .i64 f.back.dst, .int .i64 f.back.dport, .int .i64 f.back.kind, .int .i64 f.state, .bool f.seen, .bool f.sure, .int .i64 f.till, .int .i64 f.count], .agg #[.int .i64 p.src, .int .i64 p.dst, .int .i64 p.proto, .int .i64 p.a, .int .i64 p.b, .int .i64 p.kind, .int .i64 p.flags, .int .i64 p.seq, .int .i64 p.ack, .string p.body], .bool b, .int .i64 now] w fun e w' => e = .returned (.agg #[.int .i64 (flowX f p b now).orig.proto, .int .i64 (flowX f p b now).orig.src, .int .i64 (flowX f p b now).orig.sport, .int .i64 (flowX f p b now).orig.dst, .int .i64 (flowX f p b now).orig.dport, .int .i64 (flowX f p b now).orig.kind, .int .i64 (flowX f p b now).back.proto, .int .i64 (flowX f p b now).back.src, .int .i64 (flowX f p b now).back.sport, .int .i64 (flowX f p b now).back.dst, .int .i64 (flowX f p b now).back.dport, .int .i64 (flowX f p b now).back.kind, .int .i64 (flowX f p b now).state, .bool (flowX f p b now).seen, .bool (flowX f p b now).sure, .int .i64 (flowX f p b now).till, .int .i64 (flowX f p b now).count, .int .i64 (codeX f p b)]) ∧ Below w.heap.size w w' := by
  obtain ⟨fo, fb, fs, fn, fu, ft, fc⟩ := f
  by_cases h6 : p.proto = 6
  · exact l09Next_tcp fo fb fs ft fc fn fu p b now w h0 hc h6
  · by_cases h17 : p.proto = 17
    · exact l09Next_udp fo fb fs ft fc fn fu p b now w h0 hc h17
    · exact l09Next_ping fo fb fs ft fc fn fu p b now w h0 hc h6 h17
end Go.Proofs.Ytbhemimhmkgfiaa
