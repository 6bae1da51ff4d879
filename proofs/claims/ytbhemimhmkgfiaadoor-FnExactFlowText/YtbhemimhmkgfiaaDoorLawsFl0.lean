/- Proved here: the laws' own toFlow; all old memory stays (no conditions but those that stand there). -/
import Derived.Test.YtbhemimhmkgfiaaDoorFlowMath
import Derived.Test.YtbhemimhmkgfiaaDoorLawsTp
import Derived.Test.YtbhemimhmkgfiaaDoorGrowPlain
import Derived.Test.YtbhemimhmkgfiaaDoorGrowCases
import Derived.Deep.Cut
import Derived.Deep.CutBlock
import Derived.Deep.DeepCutAuto
namespace Go.Proofs.YtbhemimhmkgfiaaDoor
open Go.ChangeShapes Go.WideShapes Go.ChangeAt Go.RowKit
set_option linter.unusedVariables false
set_option linter.unusedSimpArgs false
set_option maxRecDepth 100000

set_option maxHeartbeats 4000000 in
theorem toFlow_any (f : Fl) (w : World) : Calls Tryd.prog 7 #[.agg #[.int .i64 f.orig.proto, .int .i64 f.orig.src, .int .i64 f.orig.sport, .int .i64 f.orig.dst, .int .i64 f.orig.dport, .int .i64 f.orig.kind, .int .i64 f.back.proto, .int .i64 f.back.src, .int .i64 f.back.sport, .int .i64 f.back.dst, .int .i64 f.back.dport, .int .i64 f.back.kind, .int .i64 f.state, .bool f.seen, .bool f.sure, .int .i64 f.till, .int .i64 f.count]] w fun e w' => e = .returned (.agg #[.int .i64 f.orig.proto, .int .i64 f.orig.src, .int .i64 f.orig.sport, .int .i64 f.orig.dst, .int .i64 f.orig.dport, .int .i64 f.orig.kind, .int .i64 f.back.proto, .int .i64 f.back.src, .int .i64 f.back.sport, .int .i64 f.back.dst, .int .i64 f.back.dport, .int .i64 f.back.kind, .int .i64 f.state, .bool f.seen, .bool f.sure, .int .i64 f.till, .int .i64 f.count]) ∧ Below w.heap.size w w' := by
  have HO := hidS (fun W => toTuple_any f.orig W)
  have HB := hidS (fun W => toTuple_any f.back W)
  have hGA0 : Hid ((((w.alloc (.cells #[.int .i64 f.orig.proto, .int .i64 f.orig.src, .int .i64 f.orig.sport, .int .i64 f.orig.dst, .int .i64 f.orig.dport, .int .i64 f.orig.kind, .int .i64 f.back.proto, .int .i64 f.back.src, .int .i64 f.back.sport, .int .i64 f.back.dst, .int .i64 f.back.dport, .int .i64 f.back.kind, .int .i64 f.state, .bool f.seen, .bool f.sure, .int .i64 f.till, .int .i64 f.count] 25)).alloc (.cells #[.int .i64 0, .int .i64 0, .int .i64 0, .int .i64 0, .int .i64 0, .int .i64 0, .int .i64 0, .int .i64 0, .int .i64 0, .int .i64 0, .int .i64 0, .int .i64 0, .int .i64 0, .bool false, .bool false, .int .i64 0, .int .i64 0] 35)).alloc (.cells #[.int .i64 0, .int .i64 0, .int .i64 0, .int .i64 0, .int .i64 0, .int .i64 0, .int .i64 0, .int .i64 0, .int .i64 0, .int .i64 0, .int .i64 0, .int .i64 0, .int .i64 0, .bool false, .bool false, .int .i64 0, .int .i64 0] 35)).heap[w.heap.size]? = some (.cells #[.int .i64 f.orig.proto, .int .i64 f.orig.src, .int .i64 f.orig.sport, .int .i64 f.orig.dst, .int .i64 f.orig.dport, .int .i64 f.orig.kind, .int .i64 f.back.proto, .int .i64 f.back.src, .int .i64 f.back.sport, .int .i64 f.back.dst, .int .i64 f.back.dport, .int .i64 f.back.kind, .int .i64 f.state, .bool f.seen, .bool f.sure, .int .i64 f.till, .int .i64 f.count] 25)) := by
    show _ = _
    have := blk_alloc (blk_alloc (heap_newG w (.cells #[.int .i64 f.orig.proto, .int .i64 f.orig.src, .int .i64 f.orig.sport, .int .i64 f.orig.dst, .int .i64 f.orig.dport, .int .i64 f.orig.kind, .int .i64 f.back.proto, .int .i64 f.back.src, .int .i64 f.back.sport, .int .i64 f.back.dst, .int .i64 f.back.dport, .int .i64 f.back.kind, .int .i64 f.state, .bool f.seen, .bool f.sure, .int .i64 f.till, .int .i64 f.count] 25)) (.cells #[.int .i64 0, .int .i64 0, .int .i64 0, .int .i64 0, .int .i64 0, .int .i64 0, .int .i64 0, .int .i64 0, .int .i64 0, .int .i64 0, .int .i64 0, .int .i64 0, .int .i64 0, .bool false, .bool false, .int .i64 0, .int .i64 0] 35)) (.cells #[.int .i64 0, .int .i64 0, .int .i64 0, .int .i64 0, .int .i64 0, .int .i64 0, .int .i64 0, .int .i64 0, .int .i64 0, .int .i64 0, .int .i64 0, .int .i64 0, .int .i64 0, .bool false, .bool false, .int .i64 0, .int .i64 0] 35)
    simpa using this
  have hGR0 : Hid ((((w.alloc (.cells #[.int .i64 f.orig.proto, .int .i64 f.orig.src, .int .i64 f.orig.sport, .int .i64 f.orig.dst, .int .i64 f.orig.dport, .int .i64 f.orig.kind, .int .i64 f.back.proto, .int .i64 f.back.src, .int .i64 f.back.sport, .int .i64 f.back.dst, .int .i64 f.back.dport, .int .i64 f.back.kind, .int .i64 f.state, .bool f.seen, .bool f.sure, .int .i64 f.till, .int .i64 f.count] 25)).alloc (.cells #[.int .i64 0, .int .i64 0, .int .i64 0, .int .i64 0, .int .i64 0, .int .i64 0, .int .i64 0, .int .i64 0, .int .i64 0, .int .i64 0, .int .i64 0, .int .i64 0, .int .i64 0, .bool false, .bool false, .int .i64 0, .int .i64 0] 35)).alloc (.cells #[.int .i64 0, .int .i64 0, .int .i64 0, .int .i64 0, .int .i64 0, .int .i64 0, .int .i64 0, .int .i64 0, .int .i64 0, .int .i64 0, .int .i64 0, .int .i64 0, .int .i64 0, .bool false, .bool false, .int .i64 0, .int .i64 0] 35)).heap[w.heap.size + 1]? = some (.cells #[.int .i64 0, .int .i64 0, .int .i64 0, .int .i64 0, .int .i64 0, .int .i64 0, .int .i64 0, .int .i64 0, .int .i64 0, .int .i64 0, .int .i64 0, .int .i64 0, .int .i64 0, .bool false, .bool false, .int .i64 0, .int .i64 0] 35)) := by
    show _ = _
    have := blk_alloc (heap_newG (w.alloc (.cells #[.int .i64 f.orig.proto, .int .i64 f.orig.src, .int .i64 f.orig.sport, .int .i64 f.orig.dst, .int .i64 f.orig.dport, .int .i64 f.orig.kind, .int .i64 f.back.proto, .int .i64 f.back.src, .int .i64 f.back.sport, .int .i64 f.back.dst, .int .i64 f.back.dport, .int .i64 f.back.kind, .int .i64 f.state, .bool f.seen, .bool f.sure, .int .i64 f.till, .int .i64 f.count] 25)) (.cells #[.int .i64 0, .int .i64 0, .int .i64 0, .int .i64 0, .int .i64 0, .int .i64 0, .int .i64 0, .int .i64 0, .int .i64 0, .int .i64 0, .int .i64 0, .int .i64 0, .int .i64 0, .bool false, .bool false, .int .i64 0, .int .i64 0] 35)) (.cells #[.int .i64 0, .int .i64 0, .int .i64 0, .int .i64 0, .int .i64 0, .int .i64 0, .int .i64 0, .int .i64 0, .int .i64 0, .int .i64 0, .int .i64 0, .int .i64 0, .int .i64 0, .bool false, .bool false, .int .i64 0, .int .i64 0] 35)
    simpa using this
  have hGD0 : Hid ((((w.alloc (.cells #[.int .i64 f.orig.proto, .int .i64 f.orig.src, .int .i64 f.orig.sport, .int .i64 f.orig.dst, .int .i64 f.orig.dport, .int .i64 f.orig.kind, .int .i64 f.back.proto, .int .i64 f.back.src, .int .i64 f.back.sport, .int .i64 f.back.dst, .int .i64 f.back.dport, .int .i64 f.back.kind, .int .i64 f.state, .bool f.seen, .bool f.sure, .int .i64 f.till, .int .i64 f.count] 25)).alloc (.cells #[.int .i64 0, .int .i64 0, .int .i64 0, .int .i64 0, .int .i64 0, .int .i64 0, .int .i64 0, .int .i64 0, .int .i64 0, .int .i64 0, .int .i64 0, .int .i64 0, .int .i64 0, .bool false, .bool false, .int .i64 0, .int .i64 0] 35)).alloc (.cells #[.int .i64 0, .int .i64 0, .int .i64 0, .int .i64 0, .int .i64 0, .int .i64 0, .int .i64 0, .int .i64 0, .int .i64 0, .int .i64 0, .int .i64 0, .int .i64 0, .int .i64 0, .bool false, .bool false, .int .i64 0, .int .i64 0] 35)).heap[w.heap.size + 2]? = some (.cells #[.int .i64 0, .int .i64 0, .int .i64 0, .int .i64 0, .int .i64 0, .int .i64 0, .int .i64 0, .int .i64 0, .int .i64 0, .int .i64 0, .int .i64 0, .int .i64 0, .int .i64 0, .bool false, .bool false, .int .i64 0, .int .i64 0] 35)) := by
    show _ = _
    have := heap_newG ((w.alloc (.cells #[.int .i64 f.orig.proto, .int .i64 f.orig.src, .int .i64 f.orig.sport, .int .i64 f.orig.dst, .int .i64 f.orig.dport, .int .i64 f.orig.kind, .int .i64 f.back.proto, .int .i64 f.back.src, .int .i64 f.back.sport, .int .i64 f.back.dst, .int .i64 f.back.dport, .int .i64 f.back.kind, .int .i64 f.state, .bool f.seen, .bool f.sure, .int .i64 f.till, .int .i64 f.count] 25)).alloc (.cells #[.int .i64 0, .int .i64 0, .int .i64 0, .int .i64 0, .int .i64 0, .int .i64 0, .int .i64 0, .int .i64 0, .int .i64 0, .int .i64 0, .int .i64 0, .int .i64 0, .int .i64 0, .bool false, .bool false, .int .i64 0, .int .i64 0] 35)) (.cells #[.int .i64 0, .int .i64 0, .int .i64 0, .int .i64 0, .int .i64 0, .int .i64 0, .int .i64 0, .int .i64 0, .int .i64 0, .int .i64 0, .int .i64 0, .int .i64 0, .int .i64 0, .bool false, .bool false, .int .i64 0, .int .i64 0] 35)
    simpa using this
  have hL0 := hidS ((((Below.refl w.heap.size w).alloc (Nat.le_refl _) (.cells #[.int .i64 f.orig.proto, .int .i64 f.orig.src, .int .i64 f.orig.sport, .int .i64 f.orig.dst, .int .i64 f.orig.dport, .int .i64 f.orig.kind, .int .i64 f.back.proto, .int .i64 f.back.src, .int .i64 f.back.sport, .int .i64 f.back.dst, .int .i64 f.back.dport, .int .i64 f.back.kind, .int .i64 f.state, .bool f.seen, .bool f.sure, .int .i64 f.till, .int .i64 f.count] 25)).alloc (by simp) (.cells #[.int .i64 0, .int .i64 0, .int .i64 0, .int .i64 0, .int .i64 0, .int .i64 0, .int .i64 0, .int .i64 0, .int .i64 0, .int .i64 0, .int .i64 0, .int .i64 0, .int .i64 0, .bool false, .bool false, .int .i64 0, .int .i64 0] 35)).alloc (by simp; omega) (.cells #[.int .i64 0, .int .i64 0, .int .i64 0, .int .i64 0, .int .i64 0, .int .i64 0, .int .i64 0, .int .i64 0, .int .i64 0, .int .i64 0, .int .i64 0, .int .i64 0, .int .i64 0, .bool false, .bool false, .int .i64 0, .int .i64 0] 35))
  go_enter Tryd.func7, Tryd.ntmps7
  go_upto_region 2 with fail
  generalize (((w.alloc (.cells #[.int .i64 f.orig.proto, .int .i64 f.orig.src, .int .i64 f.orig.sport, .int .i64 f.orig.dst, .int .i64 f.orig.dport, .int .i64 f.orig.kind, .int .i64 f.back.proto, .int .i64 f.back.src, .int .i64 f.back.sport, .int .i64 f.back.dst, .int .i64 f.back.dport, .int .i64 f.back.kind, .int .i64 f.state, .bool f.seen, .bool f.sure, .int .i64 f.till, .int .i64 f.count] 25)).alloc (.cells #[.int .i64 0, .int .i64 0, .int .i64 0, .int .i64 0, .int .i64 0, .int .i64 0, .int .i64 0, .int .i64 0, .int .i64 0, .int .i64 0, .int .i64 0, .int .i64 0, .int .i64 0, .bool false, .bool false, .int .i64 0, .int .i64 0] 35)).alloc (.cells #[.int .i64 0, .int .i64 0, .int .i64 0, .int .i64 0, .int .i64 0, .int .i64 0, .int .i64 0, .int .i64 0, .int .i64 0, .int .i64 0, .int .i64 0, .int .i64 0, .int .i64 0, .bool false, .bool false, .int .i64 0, .int .i64 0] 35)) = w0 at hGA0 hGR0 hGD0 hL0 ⊢
  have cA0 := blk_cell hGA0.out 0
  have cA1 := blk_cell hGA0.out 1
  have cA2 := blk_cell hGA0.out 2
  have cA3 := blk_cell hGA0.out 3
  have cA4 := blk_cell hGA0.out 4
  have cA5 := blk_cell hGA0.out 5
  have cA6 := blk_cell hGA0.out 6
  have cA7 := blk_cell hGA0.out 7
  have cA8 := blk_cell hGA0.out 8
  have cA9 := blk_cell hGA0.out 9
  have cA10 := blk_cell hGA0.out 10
  have cA11 := blk_cell hGA0.out 11
  have cA12 := blk_cell hGA0.out 12
  have cA13 := blk_cell hGA0.out 13
  have cA14 := blk_cell hGA0.out 14
  have cA15 := blk_cell hGA0.out 15
  have cA16 := blk_cell hGA0.out 16
  simp at cA0 cA1 cA2 cA3 cA4 cA5 cA6 cA7 cA8 cA9 cA10 cA11 cA12 cA13 cA14 cA15 cA16
  go_wp2_with fail
  refine (HO.out _).mono ?_
  rintro _ w1 ⟨rfl, hb1⟩
  clear cA0 cA1 cA2 cA3 cA4 cA5 cA6 cA7 cA8 cA9 cA10 cA11 cA12 cA13 cA14 cA15 cA16
  have hGA1 := hidS (blk_later hGA0.out hb1)
  have hGR1 := hidS (blk_later hGR0.out hb1)
  have hGD1 := hidS (blk_later hGD0.out hb1)
  have hL1 := hidS (hL0.out.trans (hb1.mono hL0.out.size))
  clear hb1 hL0 hGA0 hGR0 hGD0
  have kD := blk_cell hGD1.out
  have fD := blk_free hGD1.out
  go_upto_region 3 with fail
  clear kD fD
  have hGD2 : Hid (((((((w1.setCell ⟨w.heap.size + 2, 0, none⟩ (.int .i64 f.orig.proto)).setCell ⟨w.heap.size + 2, 1, none⟩ (.int .i64 f.orig.src)).setCell ⟨w.heap.size + 2, 2, none⟩ (.int .i64 f.orig.sport)).setCell ⟨w.heap.size + 2, 3, none⟩ (.int .i64 f.orig.dst)).setCell ⟨w.heap.size + 2, 4, none⟩ (.int .i64 f.orig.dport)).setCell ⟨w.heap.size + 2, 5, none⟩ (.int .i64 f.orig.kind)).heap[w.heap.size + 2]? = some (.cells #[.int .i64 f.orig.proto, .int .i64 f.orig.src, .int .i64 f.orig.sport, .int .i64 f.orig.dst, .int .i64 f.orig.dport, .int .i64 f.orig.kind, .int .i64 0, .int .i64 0, .int .i64 0, .int .i64 0, .int .i64 0, .int .i64 0, .int .i64 0, .bool false, .bool false, .int .i64 0, .int .i64 0] 35)) := by
    have := (blk_set (blk_set (blk_set (blk_set (blk_set (blk_set hGD1.out 0 (.int .i64 f.orig.proto)) 1 (.int .i64 f.orig.src)) 2 (.int .i64 f.orig.sport)) 3 (.int .i64 f.orig.dst)) 4 (.int .i64 f.orig.dport)) 5 (.int .i64 f.orig.kind))
    exact this
  have hGA2 := hidS (blk_other (B := w.heap.size + 2) (blk_other (B := w.heap.size + 2) (blk_other (B := w.heap.size + 2) (blk_other (B := w.heap.size + 2) (blk_other (B := w.heap.size + 2) (blk_other (B := w.heap.size + 2) hGA1.out (by omega) 0 (.int .i64 f.orig.proto)) (by omega) 1 (.int .i64 f.orig.src)) (by omega) 2 (.int .i64 f.orig.sport)) (by omega) 3 (.int .i64 f.orig.dst)) (by omega) 4 (.int .i64 f.orig.dport)) (by omega) 5 (.int .i64 f.orig.kind))
  have hGR2 := hidS (blk_other (B := w.heap.size + 2) (blk_other (B := w.heap.size + 2) (blk_other (B := w.heap.size + 2) (blk_other (B := w.heap.size + 2) (blk_other (B := w.heap.size + 2) (blk_other (B := w.heap.size + 2) hGR1.out (by omega) 0 (.int .i64 f.orig.proto)) (by omega) 1 (.int .i64 f.orig.src)) (by omega) 2 (.int .i64 f.orig.sport)) (by omega) 3 (.int .i64 f.orig.dst)) (by omega) 4 (.int .i64 f.orig.dport)) (by omega) 5 (.int .i64 f.orig.kind))
  have hL2 := hidS (below_at (k := 5) (b := w.heap.size + 2) (v := .int .i64 f.orig.kind) (below_at (k := 4) (b := w.heap.size + 2) (v := .int .i64 f.orig.dport) (below_at (k := 3) (b := w.heap.size + 2) (v := .int .i64 f.orig.dst) (below_at (k := 2) (b := w.heap.size + 2) (v := .int .i64 f.orig.sport) (below_at (k := 1) (b := w.heap.size + 2) (v := .int .i64 f.orig.src) (below_at (k := 0) (b := w.heap.size + 2) (v := .int .i64 f.orig.proto) hL1.out (by omega)) (by omega)) (by omega)) (by omega)) (by omega)) (by omega))
  clear hL1 hGD1 hGA1 hGR1
  generalize ((((((w1.setCell ⟨w.heap.size + 2, 0, none⟩ (.int .i64 f.orig.proto)).setCell ⟨w.heap.size + 2, 1, none⟩ (.int .i64 f.orig.src)).setCell ⟨w.heap.size + 2, 2, none⟩ (.int .i64 f.orig.sport)).setCell ⟨w.heap.size + 2, 3, none⟩ (.int .i64 f.orig.dst)).setCell ⟨w.heap.size + 2, 4, none⟩ (.int .i64 f.orig.dport)).setCell ⟨w.heap.size + 2, 5, none⟩ (.int .i64 f.orig.kind)) = w2 at hGA2 hGR2 hGD2 hL2 ⊢
  have cA0 := blk_cell hGA2.out 0
  have cA1 := blk_cell hGA2.out 1
  have cA2 := blk_cell hGA2.out 2
  have cA3 := blk_cell hGA2.out 3
  have cA4 := blk_cell hGA2.out 4
  have cA5 := blk_cell hGA2.out 5
  have cA6 := blk_cell hGA2.out 6
  have cA7 := blk_cell hGA2.out 7
  have cA8 := blk_cell hGA2.out 8
  have cA9 := blk_cell hGA2.out 9
  have cA10 := blk_cell hGA2.out 10
  have cA11 := blk_cell hGA2.out 11
  have cA12 := blk_cell hGA2.out 12
  have cA13 := blk_cell hGA2.out 13
  have cA14 := blk_cell hGA2.out 14
  have cA15 := blk_cell hGA2.out 15
  have cA16 := blk_cell hGA2.out 16
  simp at cA0 cA1 cA2 cA3 cA4 cA5 cA6 cA7 cA8 cA9 cA10 cA11 cA12 cA13 cA14 cA15 cA16
  go_wp2_with fail
  refine (HB.out _).mono ?_
  rintro _ w3 ⟨rfl, hb3⟩
  clear cA0 cA1 cA2 cA3 cA4 cA5 cA6 cA7 cA8 cA9 cA10 cA11 cA12 cA13 cA14 cA15 cA16
  have hGA3 := hidS (blk_later hGA2.out hb3)
  have hGR3 := hidS (blk_later hGR2.out hb3)
  have hGD3 := hidS (blk_later hGD2.out hb3)
  have hL3 := hidS (hL2.out.trans (hb3.mono hL2.out.size))
  clear hb3 hL2 hGA2 hGR2 hGD2
  have kD := blk_cell hGD3.out
  have fD := blk_free hGD3.out
  go_upto_region 4 with fail
  clear kD fD
  have hGD4 : Hid (((((((w3.setCell ⟨w.heap.size + 2, 6, none⟩ (.int .i64 f.back.proto)).setCell ⟨w.heap.size + 2, 7, none⟩ (.int .i64 f.back.src)).setCell ⟨w.heap.size + 2, 8, none⟩ (.int .i64 f.back.sport)).setCell ⟨w.heap.size + 2, 9, none⟩ (.int .i64 f.back.dst)).setCell ⟨w.heap.size + 2, 10, none⟩ (.int .i64 f.back.dport)).setCell ⟨w.heap.size + 2, 11, none⟩ (.int .i64 f.back.kind)).heap[w.heap.size + 2]? = some (.cells #[.int .i64 f.orig.proto, .int .i64 f.orig.src, .int .i64 f.orig.sport, .int .i64 f.orig.dst, .int .i64 f.orig.dport, .int .i64 f.orig.kind, .int .i64 f.back.proto, .int .i64 f.back.src, .int .i64 f.back.sport, .int .i64 f.back.dst, .int .i64 f.back.dport, .int .i64 f.back.kind, .int .i64 0, .bool false, .bool false, .int .i64 0, .int .i64 0] 35)) := by
    have := (blk_set (blk_set (blk_set (blk_set (blk_set (blk_set hGD3.out 6 (.int .i64 f.back.proto)) 7 (.int .i64 f.back.src)) 8 (.int .i64 f.back.sport)) 9 (.int .i64 f.back.dst)) 10 (.int .i64 f.back.dport)) 11 (.int .i64 f.back.kind))
    exact this
  have hGA4 := hidS (blk_other (B := w.heap.size + 2) (blk_other (B := w.heap.size + 2) (blk_other (B := w.heap.size + 2) (blk_other (B := w.heap.size + 2) (blk_other (B := w.heap.size + 2) (blk_other (B := w.heap.size + 2) hGA3.out (by omega) 6 (.int .i64 f.back.proto)) (by omega) 7 (.int .i64 f.back.src)) (by omega) 8 (.int .i64 f.back.sport)) (by omega) 9 (.int .i64 f.back.dst)) (by omega) 10 (.int .i64 f.back.dport)) (by omega) 11 (.int .i64 f.back.kind))
  have hGR4 := hidS (blk_other (B := w.heap.size + 2) (blk_other (B := w.heap.size + 2) (blk_other (B := w.heap.size + 2) (blk_other (B := w.heap.size + 2) (blk_other (B := w.heap.size + 2) (blk_other (B := w.heap.size + 2) hGR3.out (by omega) 6 (.int .i64 f.back.proto)) (by omega) 7 (.int .i64 f.back.src)) (by omega) 8 (.int .i64 f.back.sport)) (by omega) 9 (.int .i64 f.back.dst)) (by omega) 10 (.int .i64 f.back.dport)) (by omega) 11 (.int .i64 f.back.kind))
  have hL4 := hidS (below_at (k := 11) (b := w.heap.size + 2) (v := .int .i64 f.back.kind) (below_at (k := 10) (b := w.heap.size + 2) (v := .int .i64 f.back.dport) (below_at (k := 9) (b := w.heap.size + 2) (v := .int .i64 f.back.dst) (below_at (k := 8) (b := w.heap.size + 2) (v := .int .i64 f.back.sport) (below_at (k := 7) (b := w.heap.size + 2) (v := .int .i64 f.back.src) (below_at (k := 6) (b := w.heap.size + 2) (v := .int .i64 f.back.proto) hL3.out (by omega)) (by omega)) (by omega)) (by omega)) (by omega)) (by omega))
  clear hL3 hGD3 hGA3 hGR3
  generalize ((((((w3.setCell ⟨w.heap.size + 2, 6, none⟩ (.int .i64 f.back.proto)).setCell ⟨w.heap.size + 2, 7, none⟩ (.int .i64 f.back.src)).setCell ⟨w.heap.size + 2, 8, none⟩ (.int .i64 f.back.sport)).setCell ⟨w.heap.size + 2, 9, none⟩ (.int .i64 f.back.dst)).setCell ⟨w.heap.size + 2, 10, none⟩ (.int .i64 f.back.dport)).setCell ⟨w.heap.size + 2, 11, none⟩ (.int .i64 f.back.kind)) = w4 at hGA4 hGR4 hGD4 hL4 ⊢
  have cA0 := blk_cell hGA4.out 0
  have cA1 := blk_cell hGA4.out 1
  have cA2 := blk_cell hGA4.out 2
  have cA3 := blk_cell hGA4.out 3
  have cA4 := blk_cell hGA4.out 4
  have cA5 := blk_cell hGA4.out 5
  have cA6 := blk_cell hGA4.out 6
  have cA7 := blk_cell hGA4.out 7
  have cA8 := blk_cell hGA4.out 8
  have cA9 := blk_cell hGA4.out 9
  have cA10 := blk_cell hGA4.out 10
  have cA11 := blk_cell hGA4.out 11
  have cA12 := blk_cell hGA4.out 12
  have cA13 := blk_cell hGA4.out 13
  have cA14 := blk_cell hGA4.out 14
  have cA15 := blk_cell hGA4.out 15
  have cA16 := blk_cell hGA4.out 16
  simp at cA0 cA1 cA2 cA3 cA4 cA5 cA6 cA7 cA8 cA9 cA10 cA11 cA12 cA13 cA14 cA15 cA16
  have kD := blk_cell hGD4.out
  have fD := blk_free hGD4.out
  go_upto_region 9 with fail
  clear cA0 cA1 cA2 cA3 cA4 cA5 cA6 cA7 cA8 cA9 cA10 cA11 cA12 cA13 cA14 cA15 cA16 kD fD
  have hGD5 : Hid ((((((w4.setCell ⟨w.heap.size + 2, 12, none⟩ (.int .i64 f.state)).setCell ⟨w.heap.size + 2, 13, none⟩ (.bool f.seen)).setCell ⟨w.heap.size + 2, 14, none⟩ (.bool f.sure)).setCell ⟨w.heap.size + 2, 15, none⟩ (.int .i64 f.till)).setCell ⟨w.heap.size + 2, 16, none⟩ (.int .i64 f.count)).heap[w.heap.size + 2]? = some (.cells #[.int .i64 f.orig.proto, .int .i64 f.orig.src, .int .i64 f.orig.sport, .int .i64 f.orig.dst, .int .i64 f.orig.dport, .int .i64 f.orig.kind, .int .i64 f.back.proto, .int .i64 f.back.src, .int .i64 f.back.sport, .int .i64 f.back.dst, .int .i64 f.back.dport, .int .i64 f.back.kind, .int .i64 f.state, .bool f.seen, .bool f.sure, .int .i64 f.till, .int .i64 f.count] 35)) := by
    have := (blk_set (blk_set (blk_set (blk_set (blk_set hGD4.out 12 (.int .i64 f.state)) 13 (.bool f.seen)) 14 (.bool f.sure)) 15 (.int .i64 f.till)) 16 (.int .i64 f.count))
    exact this
  have hGA5 := hidS (blk_other (B := w.heap.size + 2) (blk_other (B := w.heap.size + 2) (blk_other (B := w.heap.size + 2) (blk_other (B := w.heap.size + 2) (blk_other (B := w.heap.size + 2) hGA4.out (by omega) 12 (.int .i64 f.state)) (by omega) 13 (.bool f.seen)) (by omega) 14 (.bool f.sure)) (by omega) 15 (.int .i64 f.till)) (by omega) 16 (.int .i64 f.count))
  have hGR5 := hidS (blk_other (B := w.heap.size + 2) (blk_other (B := w.heap.size + 2) (blk_other (B := w.heap.size + 2) (blk_other (B := w.heap.size + 2) (blk_other (B := w.heap.size + 2) hGR4.out (by omega) 12 (.int .i64 f.state)) (by omega) 13 (.bool f.seen)) (by omega) 14 (.bool f.sure)) (by omega) 15 (.int .i64 f.till)) (by omega) 16 (.int .i64 f.count))
  have hL5 := hidS (below_at (k := 16) (b := w.heap.size + 2) (v := .int .i64 f.count) (below_at (k := 15) (b := w.heap.size + 2) (v := .int .i64 f.till) (below_at (k := 14) (b := w.heap.size + 2) (v := .bool f.sure) (below_at (k := 13) (b := w.heap.size + 2) (v := .bool f.seen) (below_at (k := 12) (b := w.heap.size + 2) (v := .int .i64 f.state) hL4.out (by omega)) (by omega)) (by omega)) (by omega)) (by omega))
  clear hL4 hGD4 hGA4 hGR4
  generalize (((((w4.setCell ⟨w.heap.size + 2, 12, none⟩ (.int .i64 f.state)).setCell ⟨w.heap.size + 2, 13, none⟩ (.bool f.seen)).setCell ⟨w.heap.size + 2, 14, none⟩ (.bool f.sure)).setCell ⟨w.heap.size + 2, 15, none⟩ (.int .i64 f.till)).setCell ⟨w.heap.size + 2, 16, none⟩ (.int .i64 f.count)) = w5 at hGA5 hGR5 hGD5 hL5 ⊢
  refine plain_into 1 _ [.is (.agg #[.int .i64 f.orig.proto, .int .i64 f.orig.src, .int .i64 f.orig.sport, .int .i64 f.orig.dst, .int .i64 f.orig.dport, .int .i64 f.orig.kind, .int .i64 f.back.proto, .int .i64 f.back.src, .int .i64 f.back.sport, .int .i64 f.back.dst, .int .i64 f.back.dport, .int .i64 f.back.kind, .int .i64 f.state, .bool f.seen, .bool f.sure, .int .i64 f.till, .int .i64 f.count])] 0 2 27 35 35 (w.heap.size + 1) #[.int .i64 0, .int .i64 0, .int .i64 0, .int .i64 0, .int .i64 0, .int .i64 0, .int .i64 0, .int .i64 0, .int .i64 0, .int .i64 0, .int .i64 0, .int .i64 0, .int .i64 0, .bool false, .bool false, .int .i64 0, .int .i64 0] #[.int .i64 f.orig.proto, .int .i64 f.orig.src, .int .i64 f.orig.sport, .int .i64 f.orig.dst, .int .i64 f.orig.dport, .int .i64 f.orig.kind, .int .i64 f.back.proto, .int .i64 f.back.src, .int .i64 f.back.sport, .int .i64 f.back.dst, .int .i64 f.back.dport, .int .i64 f.back.kind, .int .i64 f.state, .bool f.seen, .bool f.sure, .int .i64 f.till, .int .i64 f.count] rfl rfl rfl (by kernel_rfl) (by kernel_rfl) (by kernel_rfl) rfl rfl (by decide) (by kernel_rfl) (by kernel_rfl) (by decide) hGR5.out (by kernel_rfl) (by kernel_rfl) (by first | kernel_rfl | simp [Value.oneCell']) (by kernel_rfl) ?stepsA_1 ?finA_1
  case stepsA_1 =>
    refine ⟨?_, trivial⟩
    · refine ⟨rfl, fun v W ρ hC kc kf ks ki kd => ?_⟩
      have t3 : ρ (.tmp 3) = .pointer (some ⟨w.heap.size + 2, 0, none⟩) := ki 3 (by decide)
      simp only [execOp, t3, Sem.run_bind, loadAt_part (o := 0) [.int .i64 f.orig.proto, .int .i64 f.orig.src, .int .i64 f.orig.sport, .int .i64 f.orig.dst, .int .i64 f.orig.dport, .int .i64 f.orig.kind, .int .i64 f.back.proto, .int .i64 f.back.src, .int .i64 f.back.sport, .int .i64 f.back.dst, .int .i64 f.back.dport, .int .i64 f.back.kind, .int .i64 f.state, .bool f.seen, .bool f.sure, .int .i64 f.till, .int .i64 f.count] (blk_later hGD5.out hC) rfl Tryd.underlying35 rfl (by kernel_rfl), Result.andThen_ok, Sem.run_pure]
      exact ⟨hC, Below.refl _ _, rfl⟩
  intro vA_1 WA_1 hBA_1 hgA_1 hall
  simp [upto, Act.put]
  clear hall
  have hEA_1 := hidS (hL5.out.trans (hBA_1 w.heap.size (by omega)))
  have hcA_1 := loadVar_blk (P := Tryd.prog) hgA_1 Tryd.underlying35 rfl (by kernel_rfl)
  clear hBA_1 hgA_1 hL5 hGA5 hGR5 hGD5
  go_wp2_with fail
  exact bodyPost_ret (v := .agg #[.int .i64 f.orig.proto, .int .i64 f.orig.src, .int .i64 f.orig.sport, .int .i64 f.orig.dst, .int .i64 f.orig.dport, .int .i64 f.orig.kind, .int .i64 f.back.proto, .int .i64 f.back.src, .int .i64 f.back.sport, .int .i64 f.back.dst, .int .i64 f.back.dport, .int .i64 f.back.kind, .int .i64 f.state, .bool f.seen, .bool f.sure, .int .i64 f.till, .int .i64 f.count]) (results_cell Tryd.results7 rfl hcA_1) rfl ⟨rfl, hEA_1.out⟩
end Go.Proofs.YtbhemimhmkgfiaaDoor
