/- Proved here: the methods of impl's ends, talkOf, isRight answer as the plain functions; all old memory stays (no conditions but those that stand there). -/
import Derived.Test.YtbhemimhmkgfiaaDoorFlowMath
import Derived.Test.YtbhemimhmkgfiaaDoorTRightI
import Derived.Test.YtbhemimhmkgfiaaDoorTimesI
import Derived.Test.YtbhemimhmkgfiaaDoorTcpStI
import Derived.Test.YtbhemimhmkgfiaaDoorSameB
import Derived.Test.YtbhemimhmkgfiaaDoorGrowCases
import Derived.Test.YtbhemimhmkgfiaaDoorGrowPlain
import Derived.Deep.Cut
import Derived.Deep.CutBlock
import Derived.Deep.DeepCutAuto
namespace Go.Proofs.YtbhemimhmkgfiaaDoor
open Go.ChangeShapes Go.WideShapes Go.ChangeAt Go.RowKit
set_option linter.unusedVariables false
set_option linter.unusedSimpArgs false
set_option maxRecDepth 100000

theorem areTcp_any (o b : Tp) (w : World) : Calls Tryd.prog 54 #[.agg #[.int .i64 o.proto, .int .i64 o.src, .int .i64 o.sport, .int .i64 o.dst, .int .i64 o.dport, .int .i64 o.kind, .int .i64 b.proto, .int .i64 b.src, .int .i64 b.sport, .int .i64 b.dst, .int .i64 b.dport, .int .i64 b.kind]] w fun e w' => e = .returned (.bool (o.proto == 6)) ∧ Below w.heap.size w w' := by
  have hGE0 : Hid ((w.alloc (.cells #[.int .i64 o.proto, .int .i64 o.src, .int .i64 o.sport, .int .i64 o.dst, .int .i64 o.dport, .int .i64 o.kind, .int .i64 b.proto, .int .i64 b.src, .int .i64 b.sport, .int .i64 b.dst, .int .i64 b.dport, .int .i64 b.kind] 50)).heap[w.heap.size]? = some (.cells #[.int .i64 o.proto, .int .i64 o.src, .int .i64 o.sport, .int .i64 o.dst, .int .i64 o.dport, .int .i64 o.kind, .int .i64 b.proto, .int .i64 b.src, .int .i64 b.sport, .int .i64 b.dst, .int .i64 b.dport, .int .i64 b.kind] 50)) := by
    show _ = _
    have := heap_newG w (.cells #[.int .i64 o.proto, .int .i64 o.src, .int .i64 o.sport, .int .i64 o.dst, .int .i64 o.dport, .int .i64 o.kind, .int .i64 b.proto, .int .i64 b.src, .int .i64 b.sport, .int .i64 b.dst, .int .i64 b.dport, .int .i64 b.kind] 50)
    simpa using this
  have hL0 := hidS ((Below.refl w.heap.size w).alloc (Nat.le_refl _) (.cells #[.int .i64 o.proto, .int .i64 o.src, .int .i64 o.sport, .int .i64 o.dst, .int .i64 o.dport, .int .i64 o.kind, .int .i64 b.proto, .int .i64 b.src, .int .i64 b.sport, .int .i64 b.dst, .int .i64 b.dport, .int .i64 b.kind] 50))
  go_enter Tryd.func54, Tryd.ntmps54
  go_upto_region 1 with fail
  generalize (w.alloc (.cells #[.int .i64 o.proto, .int .i64 o.src, .int .i64 o.sport, .int .i64 o.dst, .int .i64 o.dport, .int .i64 o.kind, .int .i64 b.proto, .int .i64 b.src, .int .i64 b.sport, .int .i64 b.dst, .int .i64 b.dport, .int .i64 b.kind] 50)) = w0 at hGE0 hL0 ⊢
  have cE0 := blk_cell hGE0.out 0
  have cE1 := blk_cell hGE0.out 1
  have cE2 := blk_cell hGE0.out 2
  have cE3 := blk_cell hGE0.out 3
  have cE4 := blk_cell hGE0.out 4
  have cE5 := blk_cell hGE0.out 5
  have cE6 := blk_cell hGE0.out 6
  have cE7 := blk_cell hGE0.out 7
  have cE8 := blk_cell hGE0.out 8
  have cE9 := blk_cell hGE0.out 9
  have cE10 := blk_cell hGE0.out 10
  have cE11 := blk_cell hGE0.out 11
  simp at cE0 cE1 cE2 cE3 cE4 cE5 cE6 cE7 cE8 cE9 cE10 cE11
  go_wp2_with fail
  go_ret
  exact ⟨rfl, hL0.out⟩
theorem arePing_any (o b : Tp) (w : World) : Calls Tryd.prog 53 #[.agg #[.int .i64 o.proto, .int .i64 o.src, .int .i64 o.sport, .int .i64 o.dst, .int .i64 o.dport, .int .i64 o.kind, .int .i64 b.proto, .int .i64 b.src, .int .i64 b.sport, .int .i64 b.dst, .int .i64 b.dport, .int .i64 b.kind]] w fun e w' => e = .returned (.bool (o.proto == 1)) ∧ Below w.heap.size w w' := by
  have hGE0 : Hid ((w.alloc (.cells #[.int .i64 o.proto, .int .i64 o.src, .int .i64 o.sport, .int .i64 o.dst, .int .i64 o.dport, .int .i64 o.kind, .int .i64 b.proto, .int .i64 b.src, .int .i64 b.sport, .int .i64 b.dst, .int .i64 b.dport, .int .i64 b.kind] 50)).heap[w.heap.size]? = some (.cells #[.int .i64 o.proto, .int .i64 o.src, .int .i64 o.sport, .int .i64 o.dst, .int .i64 o.dport, .int .i64 o.kind, .int .i64 b.proto, .int .i64 b.src, .int .i64 b.sport, .int .i64 b.dst, .int .i64 b.dport, .int .i64 b.kind] 50)) := by
    show _ = _
    have := heap_newG w (.cells #[.int .i64 o.proto, .int .i64 o.src, .int .i64 o.sport, .int .i64 o.dst, .int .i64 o.dport, .int .i64 o.kind, .int .i64 b.proto, .int .i64 b.src, .int .i64 b.sport, .int .i64 b.dst, .int .i64 b.dport, .int .i64 b.kind] 50)
    simpa using this
  have hL0 := hidS ((Below.refl w.heap.size w).alloc (Nat.le_refl _) (.cells #[.int .i64 o.proto, .int .i64 o.src, .int .i64 o.sport, .int .i64 o.dst, .int .i64 o.dport, .int .i64 o.kind, .int .i64 b.proto, .int .i64 b.src, .int .i64 b.sport, .int .i64 b.dst, .int .i64 b.dport, .int .i64 b.kind] 50))
  go_enter Tryd.func53, Tryd.ntmps53
  go_upto_region 1 with fail
  generalize (w.alloc (.cells #[.int .i64 o.proto, .int .i64 o.src, .int .i64 o.sport, .int .i64 o.dst, .int .i64 o.dport, .int .i64 o.kind, .int .i64 b.proto, .int .i64 b.src, .int .i64 b.sport, .int .i64 b.dst, .int .i64 b.dport, .int .i64 b.kind] 50)) = w0 at hGE0 hL0 ⊢
  have cE0 := blk_cell hGE0.out 0
  have cE1 := blk_cell hGE0.out 1
  have cE2 := blk_cell hGE0.out 2
  have cE3 := blk_cell hGE0.out 3
  have cE4 := blk_cell hGE0.out 4
  have cE5 := blk_cell hGE0.out 5
  have cE6 := blk_cell hGE0.out 6
  have cE7 := blk_cell hGE0.out 7
  have cE8 := blk_cell hGE0.out 8
  have cE9 := blk_cell hGE0.out 9
  have cE10 := blk_cell hGE0.out 10
  have cE11 := blk_cell hGE0.out 11
  simp at cE0 cE1 cE2 cE3 cE4 cE5 cE6 cE7 cE8 cE9 cE10 cE11
  go_wp2_with fail
  go_ret
  exact ⟨rfl, hL0.out⟩
theorem comesAs_any (o b : Tp) (q : Bool) (w : World) : Calls Tryd.prog 41 #[.agg #[.int .i64 o.proto, .int .i64 o.src, .int .i64 o.sport, .int .i64 o.dst, .int .i64 o.dport, .int .i64 o.kind, .int .i64 b.proto, .int .i64 b.src, .int .i64 b.sport, .int .i64 b.dst, .int .i64 b.dport, .int .i64 b.kind], .bool q] w fun e w' => e = .returned (.agg #[.int .i64 (if q then b else o).proto, .int .i64 (if q then b else o).src, .int .i64 (if q then b else o).sport, .int .i64 (if q then b else o).dst, .int .i64 (if q then b else o).dport, .int .i64 (if q then b else o).kind]) ∧ Below w.heap.size w w' := by
  cases q
  · show Calls Tryd.prog 41 #[.agg #[.int .i64 o.proto, .int .i64 o.src, .int .i64 o.sport, .int .i64 o.dst, .int .i64 o.dport, .int .i64 o.kind, .int .i64 b.proto, .int .i64 b.src, .int .i64 b.sport, .int .i64 b.dst, .int .i64 b.dport, .int .i64 b.kind], .bool false] w fun e w' => e = .returned (.agg #[.int .i64 o.proto, .int .i64 o.src, .int .i64 o.sport, .int .i64 o.dst, .int .i64 o.dport, .int .i64 o.kind]) ∧ Below w.heap.size w w'
    have hGE0 : Hid (((w.alloc (.cells #[.int .i64 o.proto, .int .i64 o.src, .int .i64 o.sport, .int .i64 o.dst, .int .i64 o.dport, .int .i64 o.kind, .int .i64 b.proto, .int .i64 b.src, .int .i64 b.sport, .int .i64 b.dst, .int .i64 b.dport, .int .i64 b.kind] 50)).alloc (.cells #[.int .i64 0, .int .i64 0, .int .i64 0, .int .i64 0, .int .i64 0, .int .i64 0] 33)).heap[w.heap.size]? = some (.cells #[.int .i64 o.proto, .int .i64 o.src, .int .i64 o.sport, .int .i64 o.dst, .int .i64 o.dport, .int .i64 o.kind, .int .i64 b.proto, .int .i64 b.src, .int .i64 b.sport, .int .i64 b.dst, .int .i64 b.dport, .int .i64 b.kind] 50)) := by
      show _ = _
      have := blk_alloc (heap_newG w (.cells #[.int .i64 o.proto, .int .i64 o.src, .int .i64 o.sport, .int .i64 o.dst, .int .i64 o.dport, .int .i64 o.kind, .int .i64 b.proto, .int .i64 b.src, .int .i64 b.sport, .int .i64 b.dst, .int .i64 b.dport, .int .i64 b.kind] 50)) (.cells #[.int .i64 0, .int .i64 0, .int .i64 0, .int .i64 0, .int .i64 0, .int .i64 0] 33)
      simpa using this
    have hGR0 : Hid (((w.alloc (.cells #[.int .i64 o.proto, .int .i64 o.src, .int .i64 o.sport, .int .i64 o.dst, .int .i64 o.dport, .int .i64 o.kind, .int .i64 b.proto, .int .i64 b.src, .int .i64 b.sport, .int .i64 b.dst, .int .i64 b.dport, .int .i64 b.kind] 50)).alloc (.cells #[.int .i64 0, .int .i64 0, .int .i64 0, .int .i64 0, .int .i64 0, .int .i64 0] 33)).heap[w.heap.size + 1]? = some (.cells #[.int .i64 0, .int .i64 0, .int .i64 0, .int .i64 0, .int .i64 0, .int .i64 0] 33)) := by
      show _ = _
      have := heap_newG (w.alloc (.cells #[.int .i64 o.proto, .int .i64 o.src, .int .i64 o.sport, .int .i64 o.dst, .int .i64 o.dport, .int .i64 o.kind, .int .i64 b.proto, .int .i64 b.src, .int .i64 b.sport, .int .i64 b.dst, .int .i64 b.dport, .int .i64 b.kind] 50)) (.cells #[.int .i64 0, .int .i64 0, .int .i64 0, .int .i64 0, .int .i64 0, .int .i64 0] 33)
      simpa using this
    have hL0 := hidS (((Below.refl w.heap.size w).alloc (Nat.le_refl _) (.cells #[.int .i64 o.proto, .int .i64 o.src, .int .i64 o.sport, .int .i64 o.dst, .int .i64 o.dport, .int .i64 o.kind, .int .i64 b.proto, .int .i64 b.src, .int .i64 b.sport, .int .i64 b.dst, .int .i64 b.dport, .int .i64 b.kind] 50)).alloc (by simp) (.cells #[.int .i64 0, .int .i64 0, .int .i64 0, .int .i64 0, .int .i64 0, .int .i64 0] 33))
    go_enter Tryd.func41, Tryd.ntmps41
    go_upto_region 1 with fail
    generalize ((w.alloc (.cells #[.int .i64 o.proto, .int .i64 o.src, .int .i64 o.sport, .int .i64 o.dst, .int .i64 o.dport, .int .i64 o.kind, .int .i64 b.proto, .int .i64 b.src, .int .i64 b.sport, .int .i64 b.dst, .int .i64 b.dport, .int .i64 b.kind] 50)).alloc (.cells #[.int .i64 0, .int .i64 0, .int .i64 0, .int .i64 0, .int .i64 0, .int .i64 0] 33)) = w0 at hGE0 hGR0 hL0 ⊢
    have cE0 := blk_cell hGE0.out 0
    have cE1 := blk_cell hGE0.out 1
    have cE2 := blk_cell hGE0.out 2
    have cE3 := blk_cell hGE0.out 3
    have cE4 := blk_cell hGE0.out 4
    have cE5 := blk_cell hGE0.out 5
    have cE6 := blk_cell hGE0.out 6
    have cE7 := blk_cell hGE0.out 7
    have cE8 := blk_cell hGE0.out 8
    have cE9 := blk_cell hGE0.out 9
    have cE10 := blk_cell hGE0.out 10
    have cE11 := blk_cell hGE0.out 11
    simp at cE0 cE1 cE2 cE3 cE4 cE5 cE6 cE7 cE8 cE9 cE10 cE11
    have kR := blk_cell hGR0.out
    have fR := blk_free hGR0.out
    go_wp2_with fail
    refine bodyPost_ret (v := .agg #[.int .i64 o.proto, .int .i64 o.src, .int .i64 o.sport, .int .i64 o.dst, .int .i64 o.dport, .int .i64 o.kind]) (by simp [results, Tryd.results41, go_sem, *]) rfl ⟨rfl, ?_⟩
    repeat (refine below_at ?_ (by omega))
    exact hL0.out
  · show Calls Tryd.prog 41 #[.agg #[.int .i64 o.proto, .int .i64 o.src, .int .i64 o.sport, .int .i64 o.dst, .int .i64 o.dport, .int .i64 o.kind, .int .i64 b.proto, .int .i64 b.src, .int .i64 b.sport, .int .i64 b.dst, .int .i64 b.dport, .int .i64 b.kind], .bool true] w fun e w' => e = .returned (.agg #[.int .i64 b.proto, .int .i64 b.src, .int .i64 b.sport, .int .i64 b.dst, .int .i64 b.dport, .int .i64 b.kind]) ∧ Below w.heap.size w w'
    have hGE0 : Hid (((w.alloc (.cells #[.int .i64 o.proto, .int .i64 o.src, .int .i64 o.sport, .int .i64 o.dst, .int .i64 o.dport, .int .i64 o.kind, .int .i64 b.proto, .int .i64 b.src, .int .i64 b.sport, .int .i64 b.dst, .int .i64 b.dport, .int .i64 b.kind] 50)).alloc (.cells #[.int .i64 0, .int .i64 0, .int .i64 0, .int .i64 0, .int .i64 0, .int .i64 0] 33)).heap[w.heap.size]? = some (.cells #[.int .i64 o.proto, .int .i64 o.src, .int .i64 o.sport, .int .i64 o.dst, .int .i64 o.dport, .int .i64 o.kind, .int .i64 b.proto, .int .i64 b.src, .int .i64 b.sport, .int .i64 b.dst, .int .i64 b.dport, .int .i64 b.kind] 50)) := by
      show _ = _
      have := blk_alloc (heap_newG w (.cells #[.int .i64 o.proto, .int .i64 o.src, .int .i64 o.sport, .int .i64 o.dst, .int .i64 o.dport, .int .i64 o.kind, .int .i64 b.proto, .int .i64 b.src, .int .i64 b.sport, .int .i64 b.dst, .int .i64 b.dport, .int .i64 b.kind] 50)) (.cells #[.int .i64 0, .int .i64 0, .int .i64 0, .int .i64 0, .int .i64 0, .int .i64 0] 33)
      simpa using this
    have hGR0 : Hid (((w.alloc (.cells #[.int .i64 o.proto, .int .i64 o.src, .int .i64 o.sport, .int .i64 o.dst, .int .i64 o.dport, .int .i64 o.kind, .int .i64 b.proto, .int .i64 b.src, .int .i64 b.sport, .int .i64 b.dst, .int .i64 b.dport, .int .i64 b.kind] 50)).alloc (.cells #[.int .i64 0, .int .i64 0, .int .i64 0, .int .i64 0, .int .i64 0, .int .i64 0] 33)).heap[w.heap.size + 1]? = some (.cells #[.int .i64 0, .int .i64 0, .int .i64 0, .int .i64 0, .int .i64 0, .int .i64 0] 33)) := by
      show _ = _
      have := heap_newG (w.alloc (.cells #[.int .i64 o.proto, .int .i64 o.src, .int .i64 o.sport, .int .i64 o.dst, .int .i64 o.dport, .int .i64 o.kind, .int .i64 b.proto, .int .i64 b.src, .int .i64 b.sport, .int .i64 b.dst, .int .i64 b.dport, .int .i64 b.kind] 50)) (.cells #[.int .i64 0, .int .i64 0, .int .i64 0, .int .i64 0, .int .i64 0, .int .i64 0] 33)
      simpa using this
    have hL0 := hidS (((Below.refl w.heap.size w).alloc (Nat.le_refl _) (.cells #[.int .i64 o.proto, .int .i64 o.src, .int .i64 o.sport, .int .i64 o.dst, .int .i64 o.dport, .int .i64 o.kind, .int .i64 b.proto, .int .i64 b.src, .int .i64 b.sport, .int .i64 b.dst, .int .i64 b.dport, .int .i64 b.kind] 50)).alloc (by simp) (.cells #[.int .i64 0, .int .i64 0, .int .i64 0, .int .i64 0, .int .i64 0, .int .i64 0] 33))
    go_enter Tryd.func41, Tryd.ntmps41
    go_upto_region 1 with fail
    generalize ((w.alloc (.cells #[.int .i64 o.proto, .int .i64 o.src, .int .i64 o.sport, .int .i64 o.dst, .int .i64 o.dport, .int .i64 o.kind, .int .i64 b.proto, .int .i64 b.src, .int .i64 b.sport, .int .i64 b.dst, .int .i64 b.dport, .int .i64 b.kind] 50)).alloc (.cells #[.int .i64 0, .int .i64 0, .int .i64 0, .int .i64 0, .int .i64 0, .int .i64 0] 33)) = w0 at hGE0 hGR0 hL0 ⊢
    have cE0 := blk_cell hGE0.out 0
    have cE1 := blk_cell hGE0.out 1
    have cE2 := blk_cell hGE0.out 2
    have cE3 := blk_cell hGE0.out 3
    have cE4 := blk_cell hGE0.out 4
    have cE5 := blk_cell hGE0.out 5
    have cE6 := blk_cell hGE0.out 6
    have cE7 := blk_cell hGE0.out 7
    have cE8 := blk_cell hGE0.out 8
    have cE9 := blk_cell hGE0.out 9
    have cE10 := blk_cell hGE0.out 10
    have cE11 := blk_cell hGE0.out 11
    simp at cE0 cE1 cE2 cE3 cE4 cE5 cE6 cE7 cE8 cE9 cE10 cE11
    have kR := blk_cell hGR0.out
    have fR := blk_free hGR0.out
    go_wp2_with fail
    refine bodyPost_ret (v := .agg #[.int .i64 b.proto, .int .i64 b.src, .int .i64 b.sport, .int .i64 b.dst, .int .i64 b.dport, .int .i64 b.kind]) (by simp [results, Tryd.results41, go_sem, *]) rfl ⟨rfl, ?_⟩
    repeat (refine below_at ?_ (by omega))
    exact hL0.out
set_option maxHeartbeats 4000000 in
theorem talkOf_any (f : Fl) (w : World) : Calls Tryd.prog 20 #[.agg #[.int .i64 f.orig.proto, .int .i64 f.orig.src, .int .i64 f.orig.sport, .int .i64 f.orig.dst, .int .i64 f.orig.dport, .int .i64 f.orig.kind, .int .i64 f.back.proto, .int .i64 f.back.src, .int .i64 f.back.sport, .int .i64 f.back.dst, .int .i64 f.back.dport, .int .i64 f.back.kind, .int .i64 f.state, .bool f.seen, .bool f.sure, .int .i64 f.till, .int .i64 f.count]] w fun e w' => e = .returned (.agg #[.int .i64 f.orig.proto, .int .i64 f.orig.src, .int .i64 f.orig.sport, .int .i64 f.orig.dst, .int .i64 f.orig.dport, .int .i64 f.orig.kind, .int .i64 f.back.proto, .int .i64 f.back.src, .int .i64 f.back.sport, .int .i64 f.back.dst, .int .i64 f.back.dport, .int .i64 f.back.kind, .int .i64 f.state, .bool f.seen, .bool f.sure, .int .i64 f.till, .int .i64 f.count]) ∧ Below w.heap.size w w' := by
  have hGF0 : Hid (((w.alloc (.cells #[.int .i64 f.orig.proto, .int .i64 f.orig.src, .int .i64 f.orig.sport, .int .i64 f.orig.dst, .int .i64 f.orig.dport, .int .i64 f.orig.kind, .int .i64 f.back.proto, .int .i64 f.back.src, .int .i64 f.back.sport, .int .i64 f.back.dst, .int .i64 f.back.dport, .int .i64 f.back.kind, .int .i64 f.state, .bool f.seen, .bool f.sure, .int .i64 f.till, .int .i64 f.count] 35)).alloc (.cells #[.int .i64 0, .int .i64 0, .int .i64 0, .int .i64 0, .int .i64 0, .int .i64 0, .int .i64 0, .int .i64 0, .int .i64 0, .int .i64 0, .int .i64 0, .int .i64 0, .int .i64 0, .bool false, .bool false, .int .i64 0, .int .i64 0] 52)).heap[w.heap.size]? = some (.cells #[.int .i64 f.orig.proto, .int .i64 f.orig.src, .int .i64 f.orig.sport, .int .i64 f.orig.dst, .int .i64 f.orig.dport, .int .i64 f.orig.kind, .int .i64 f.back.proto, .int .i64 f.back.src, .int .i64 f.back.sport, .int .i64 f.back.dst, .int .i64 f.back.dport, .int .i64 f.back.kind, .int .i64 f.state, .bool f.seen, .bool f.sure, .int .i64 f.till, .int .i64 f.count] 35)) := by
    show _ = _
    have := blk_alloc (heap_newG w (.cells #[.int .i64 f.orig.proto, .int .i64 f.orig.src, .int .i64 f.orig.sport, .int .i64 f.orig.dst, .int .i64 f.orig.dport, .int .i64 f.orig.kind, .int .i64 f.back.proto, .int .i64 f.back.src, .int .i64 f.back.sport, .int .i64 f.back.dst, .int .i64 f.back.dport, .int .i64 f.back.kind, .int .i64 f.state, .bool f.seen, .bool f.sure, .int .i64 f.till, .int .i64 f.count] 35)) (.cells #[.int .i64 0, .int .i64 0, .int .i64 0, .int .i64 0, .int .i64 0, .int .i64 0, .int .i64 0, .int .i64 0, .int .i64 0, .int .i64 0, .int .i64 0, .int .i64 0, .int .i64 0, .bool false, .bool false, .int .i64 0, .int .i64 0] 52)
    simpa using this
  have hGR0 : Hid (((w.alloc (.cells #[.int .i64 f.orig.proto, .int .i64 f.orig.src, .int .i64 f.orig.sport, .int .i64 f.orig.dst, .int .i64 f.orig.dport, .int .i64 f.orig.kind, .int .i64 f.back.proto, .int .i64 f.back.src, .int .i64 f.back.sport, .int .i64 f.back.dst, .int .i64 f.back.dport, .int .i64 f.back.kind, .int .i64 f.state, .bool f.seen, .bool f.sure, .int .i64 f.till, .int .i64 f.count] 35)).alloc (.cells #[.int .i64 0, .int .i64 0, .int .i64 0, .int .i64 0, .int .i64 0, .int .i64 0, .int .i64 0, .int .i64 0, .int .i64 0, .int .i64 0, .int .i64 0, .int .i64 0, .int .i64 0, .bool false, .bool false, .int .i64 0, .int .i64 0] 52)).heap[w.heap.size + 1]? = some (.cells #[.int .i64 0, .int .i64 0, .int .i64 0, .int .i64 0, .int .i64 0, .int .i64 0, .int .i64 0, .int .i64 0, .int .i64 0, .int .i64 0, .int .i64 0, .int .i64 0, .int .i64 0, .bool false, .bool false, .int .i64 0, .int .i64 0] 52)) := by
    show _ = _
    have := heap_newG (w.alloc (.cells #[.int .i64 f.orig.proto, .int .i64 f.orig.src, .int .i64 f.orig.sport, .int .i64 f.orig.dst, .int .i64 f.orig.dport, .int .i64 f.orig.kind, .int .i64 f.back.proto, .int .i64 f.back.src, .int .i64 f.back.sport, .int .i64 f.back.dst, .int .i64 f.back.dport, .int .i64 f.back.kind, .int .i64 f.state, .bool f.seen, .bool f.sure, .int .i64 f.till, .int .i64 f.count] 35)) (.cells #[.int .i64 0, .int .i64 0, .int .i64 0, .int .i64 0, .int .i64 0, .int .i64 0, .int .i64 0, .int .i64 0, .int .i64 0, .int .i64 0, .int .i64 0, .int .i64 0, .int .i64 0, .bool false, .bool false, .int .i64 0, .int .i64 0] 52)
    simpa using this
  have hL0 := hidS (((Below.refl w.heap.size w).alloc (Nat.le_refl _) (.cells #[.int .i64 f.orig.proto, .int .i64 f.orig.src, .int .i64 f.orig.sport, .int .i64 f.orig.dst, .int .i64 f.orig.dport, .int .i64 f.orig.kind, .int .i64 f.back.proto, .int .i64 f.back.src, .int .i64 f.back.sport, .int .i64 f.back.dst, .int .i64 f.back.dport, .int .i64 f.back.kind, .int .i64 f.state, .bool f.seen, .bool f.sure, .int .i64 f.till, .int .i64 f.count] 35)).alloc (by simp) (.cells #[.int .i64 0, .int .i64 0, .int .i64 0, .int .i64 0, .int .i64 0, .int .i64 0, .int .i64 0, .int .i64 0, .int .i64 0, .int .i64 0, .int .i64 0, .int .i64 0, .int .i64 0, .bool false, .bool false, .int .i64 0, .int .i64 0] 52))
  go_enter Tryd.func20, Tryd.ntmps20
  go_upto_region 1 with fail
  generalize ((w.alloc (.cells #[.int .i64 f.orig.proto, .int .i64 f.orig.src, .int .i64 f.orig.sport, .int .i64 f.orig.dst, .int .i64 f.orig.dport, .int .i64 f.orig.kind, .int .i64 f.back.proto, .int .i64 f.back.src, .int .i64 f.back.sport, .int .i64 f.back.dst, .int .i64 f.back.dport, .int .i64 f.back.kind, .int .i64 f.state, .bool f.seen, .bool f.sure, .int .i64 f.till, .int .i64 f.count] 35)).alloc (.cells #[.int .i64 0, .int .i64 0, .int .i64 0, .int .i64 0, .int .i64 0, .int .i64 0, .int .i64 0, .int .i64 0, .int .i64 0, .int .i64 0, .int .i64 0, .int .i64 0, .int .i64 0, .bool false, .bool false, .int .i64 0, .int .i64 0] 52)) = w0 at hGF0 hGR0 hL0 ⊢
  refine plain_into 16 _ [.is (.pointer (some ⟨w.heap.size, 0, none⟩)), .is (.agg #[.int .i64 f.orig.proto, .int .i64 f.orig.src, .int .i64 f.orig.sport, .int .i64 f.orig.dst, .int .i64 f.orig.dport, .int .i64 f.orig.kind]), .is (.pointer (some ⟨w.heap.size, 6, none⟩)), .is (.agg #[.int .i64 f.back.proto, .int .i64 f.back.src, .int .i64 f.back.sport, .int .i64 f.back.dst, .int .i64 f.back.dport, .int .i64 f.back.kind]), .is (.agg #[.int .i64 f.orig.proto, .int .i64 f.orig.src, .int .i64 f.orig.sport, .int .i64 f.orig.dst, .int .i64 f.orig.dport, .int .i64 f.orig.kind, .int .i64 f.back.proto, .int .i64 f.back.src, .int .i64 f.back.sport, .int .i64 f.back.dst, .int .i64 f.back.dport, .int .i64 f.back.kind]), .is (.pointer (some ⟨w.heap.size, 12, none⟩)), .is (.int .i64 f.state), .is (.pointer (some ⟨w.heap.size, 13, none⟩)), .is (.bool f.seen), .is (.pointer (some ⟨w.heap.size, 14, none⟩)), .is (.bool f.sure), .is (.pointer (some ⟨w.heap.size, 15, none⟩)), .is (.int .i64 f.till), .is (.pointer (some ⟨w.heap.size, 16, none⟩)), .is (.int .i64 f.count), .is (.agg #[.int .i64 f.orig.proto, .int .i64 f.orig.src, .int .i64 f.orig.sport, .int .i64 f.orig.dst, .int .i64 f.orig.dport, .int .i64 f.orig.kind, .int .i64 f.back.proto, .int .i64 f.back.src, .int .i64 f.back.sport, .int .i64 f.back.dst, .int .i64 f.back.dport, .int .i64 f.back.kind, .int .i64 f.state, .bool f.seen, .bool f.sure, .int .i64 f.till, .int .i64 f.count])] 15 2 18 52 52 (w.heap.size + 1) #[.int .i64 0, .int .i64 0, .int .i64 0, .int .i64 0, .int .i64 0, .int .i64 0, .int .i64 0, .int .i64 0, .int .i64 0, .int .i64 0, .int .i64 0, .int .i64 0, .int .i64 0, .bool false, .bool false, .int .i64 0, .int .i64 0] #[.int .i64 f.orig.proto, .int .i64 f.orig.src, .int .i64 f.orig.sport, .int .i64 f.orig.dst, .int .i64 f.orig.dport, .int .i64 f.orig.kind, .int .i64 f.back.proto, .int .i64 f.back.src, .int .i64 f.back.sport, .int .i64 f.back.dst, .int .i64 f.back.dport, .int .i64 f.back.kind, .int .i64 f.state, .bool f.seen, .bool f.sure, .int .i64 f.till, .int .i64 f.count] rfl rfl rfl (by kernel_rfl) (by kernel_rfl) (by kernel_rfl) rfl rfl (by decide) (by kernel_rfl) (by kernel_rfl) (by decide) hGR0.out (by kernel_rfl) (by kernel_rfl) (by first | kernel_rfl | simp [Value.oneCell']) (by kernel_rfl) ?stepsA_1 ?finA_1
  case stepsA_1 =>
    refine ⟨?_, ?_, ?_, ?_, ?_, ?_, ?_, ?_, ?_, ?_, ?_, ?_, ?_, ?_, ?_, ?_, trivial⟩
    · refine ⟨rfl, fun v W ρ hC kc kf ks ki kd => ?_⟩
      have t1 : ρ (.tmp 1) = .pointer (some ⟨w.heap.size, 0, none⟩) := ki 1 (by decide)
      simp [execOp, go_sem, kc, t1]
      exact ⟨hC, Below.refl _ _, rfl⟩
    · refine ⟨rfl, fun v W ρ hC kc kf ks ki kd => ?_⟩
      have d0 : v 0 = .pointer (some ⟨w.heap.size, 0, none⟩) := by first | exact kd _ (mem0 rfl) rfl | exact kd _ (mem1 rfl) rfl | exact kd _ (mem2 rfl) rfl | exact kd _ (mem3 rfl) rfl | exact kd _ (mem4 rfl) rfl | exact kd _ (mem5 rfl) rfl | exact kd _ (Array.mem_of_getElem? (i := 6) rfl) rfl | exact kd _ (Array.mem_of_getElem? (i := 7) rfl) rfl
      have t3 : ρ (.tmp 3) = .pointer (some ⟨w.heap.size, 0, none⟩) := (ks 0 3 (by decide) rfl).trans d0
      have hg := blk_later hGF0.out hC
      have c0 := blk_cell hg 0
      have c1 := blk_cell hg 1
      have c2 := blk_cell hg 2
      have c3 := blk_cell hg 3
      have c4 := blk_cell hg 4
      have c5 := blk_cell hg 5
      simp at c0 c1 c2 c3 c4 c5
      simp [execOp, go_sem, kc, t3, c0, c1, c2, c3, c4, c5]
      exact ⟨hC, Below.refl _ _, rfl⟩
    · refine ⟨rfl, fun v W ρ hC kc kf ks ki kd => ?_⟩
      have t1 : ρ (.tmp 1) = .pointer (some ⟨w.heap.size, 0, none⟩) := ki 1 (by decide)
      simp [execOp, go_sem, kc, t1]
      exact ⟨hC, Below.refl _ _, rfl⟩
    · refine ⟨rfl, fun v W ρ hC kc kf ks ki kd => ?_⟩
      have d2 : v 2 = .pointer (some ⟨w.heap.size, 6, none⟩) := by first | exact kd _ (mem0 rfl) rfl | exact kd _ (mem1 rfl) rfl | exact kd _ (mem2 rfl) rfl | exact kd _ (mem3 rfl) rfl | exact kd _ (mem4 rfl) rfl | exact kd _ (mem5 rfl) rfl | exact kd _ (Array.mem_of_getElem? (i := 6) rfl) rfl | exact kd _ (Array.mem_of_getElem? (i := 7) rfl) rfl
      have t5 : ρ (.tmp 5) = .pointer (some ⟨w.heap.size, 6, none⟩) := (ks 2 5 (by decide) rfl).trans d2
      have hg := blk_later hGF0.out hC
      have c6 := blk_cell hg 6
      have c7 := blk_cell hg 7
      have c8 := blk_cell hg 8
      have c9 := blk_cell hg 9
      have c10 := blk_cell hg 10
      have c11 := blk_cell hg 11
      simp at c6 c7 c8 c9 c10 c11
      simp [execOp, go_sem, kc, t5, c6, c7, c8, c9, c10, c11]
      exact ⟨hC, Below.refl _ _, rfl⟩
    · refine ⟨rfl, fun v W ρ hC kc kf ks ki kd => ?_⟩
      have d1 : v 1 = .agg #[.int .i64 f.orig.proto, .int .i64 f.orig.src, .int .i64 f.orig.sport, .int .i64 f.orig.dst, .int .i64 f.orig.dport, .int .i64 f.orig.kind] := by first | exact kd _ (mem0 rfl) rfl | exact kd _ (mem1 rfl) rfl | exact kd _ (mem2 rfl) rfl | exact kd _ (mem3 rfl) rfl | exact kd _ (mem4 rfl) rfl | exact kd _ (mem5 rfl) rfl | exact kd _ (Array.mem_of_getElem? (i := 6) rfl) rfl | exact kd _ (Array.mem_of_getElem? (i := 7) rfl) rfl
      have t4 : ρ (.tmp 4) = .agg #[.int .i64 f.orig.proto, .int .i64 f.orig.src, .int .i64 f.orig.sport, .int .i64 f.orig.dst, .int .i64 f.orig.dport, .int .i64 f.orig.kind] := (ks 1 4 (by decide) rfl).trans d1
      have d3 : v 3 = .agg #[.int .i64 f.back.proto, .int .i64 f.back.src, .int .i64 f.back.sport, .int .i64 f.back.dst, .int .i64 f.back.dport, .int .i64 f.back.kind] := by first | exact kd _ (mem0 rfl) rfl | exact kd _ (mem1 rfl) rfl | exact kd _ (mem2 rfl) rfl | exact kd _ (mem3 rfl) rfl | exact kd _ (mem4 rfl) rfl | exact kd _ (mem5 rfl) rfl | exact kd _ (Array.mem_of_getElem? (i := 6) rfl) rfl | exact kd _ (Array.mem_of_getElem? (i := 7) rfl) rfl
      have t6 : ρ (.tmp 6) = .agg #[.int .i64 f.back.proto, .int .i64 f.back.src, .int .i64 f.back.sport, .int .i64 f.back.dst, .int .i64 f.back.dport, .int .i64 f.back.kind] := (ks 3 6 (by decide) rfl).trans d3
      simp [execOp, go_sem, kc, t4, t6]
      exact ⟨hC, Below.refl _ _, rfl⟩
    · refine ⟨rfl, fun v W ρ hC kc kf ks ki kd => ?_⟩
      have t1 : ρ (.tmp 1) = .pointer (some ⟨w.heap.size, 0, none⟩) := ki 1 (by decide)
      simp [execOp, go_sem, kc, t1]
      exact ⟨hC, Below.refl _ _, rfl⟩
    · refine ⟨rfl, fun v W ρ hC kc kf ks ki kd => ?_⟩
      have d5 : v 5 = .pointer (some ⟨w.heap.size, 12, none⟩) := by first | exact kd _ (mem0 rfl) rfl | exact kd _ (mem1 rfl) rfl | exact kd _ (mem2 rfl) rfl | exact kd _ (mem3 rfl) rfl | exact kd _ (mem4 rfl) rfl | exact kd _ (mem5 rfl) rfl | exact kd _ (Array.mem_of_getElem? (i := 6) rfl) rfl | exact kd _ (Array.mem_of_getElem? (i := 7) rfl) rfl
      have t8 : ρ (.tmp 8) = .pointer (some ⟨w.heap.size, 12, none⟩) := (ks 5 8 (by decide) rfl).trans d5
      have hg := blk_later hGF0.out hC
      have c12 := blk_cell hg 12
      simp at c12
      simp [execOp, go_sem, kc, t8, c12]
      exact ⟨hC, Below.refl _ _, rfl⟩
    · refine ⟨rfl, fun v W ρ hC kc kf ks ki kd => ?_⟩
      have t1 : ρ (.tmp 1) = .pointer (some ⟨w.heap.size, 0, none⟩) := ki 1 (by decide)
      simp [execOp, go_sem, kc, t1]
      exact ⟨hC, Below.refl _ _, rfl⟩
    · refine ⟨rfl, fun v W ρ hC kc kf ks ki kd => ?_⟩
      have d7 : v 7 = .pointer (some ⟨w.heap.size, 13, none⟩) := by first | exact kd _ (mem0 rfl) rfl | exact kd _ (mem1 rfl) rfl | exact kd _ (mem2 rfl) rfl | exact kd _ (mem3 rfl) rfl | exact kd _ (mem4 rfl) rfl | exact kd _ (mem5 rfl) rfl | exact kd _ (Array.mem_of_getElem? (i := 6) rfl) rfl | exact kd _ (Array.mem_of_getElem? (i := 7) rfl) rfl
      have t10 : ρ (.tmp 10) = .pointer (some ⟨w.heap.size, 13, none⟩) := (ks 7 10 (by decide) rfl).trans d7
      have hg := blk_later hGF0.out hC
      have c13 := blk_cell hg 13
      simp at c13
      simp [execOp, go_sem, kc, t10, c13]
      exact ⟨hC, Below.refl _ _, rfl⟩
    · refine ⟨rfl, fun v W ρ hC kc kf ks ki kd => ?_⟩
      have t1 : ρ (.tmp 1) = .pointer (some ⟨w.heap.size, 0, none⟩) := ki 1 (by decide)
      simp [execOp, go_sem, kc, t1]
      exact ⟨hC, Below.refl _ _, rfl⟩
    · refine ⟨rfl, fun v W ρ hC kc kf ks ki kd => ?_⟩
      have d9 : v 9 = .pointer (some ⟨w.heap.size, 14, none⟩) := by first | exact kd _ (mem0 rfl) rfl | exact kd _ (mem1 rfl) rfl | exact kd _ (mem2 rfl) rfl | exact kd _ (mem3 rfl) rfl | exact kd _ (mem4 rfl) rfl | exact kd _ (mem5 rfl) rfl | exact kd _ (Array.mem_of_getElem? (i := 6) rfl) rfl | exact kd _ (Array.mem_of_getElem? (i := 7) rfl) rfl
      have t12 : ρ (.tmp 12) = .pointer (some ⟨w.heap.size, 14, none⟩) := (ks 9 12 (by decide) rfl).trans d9
      have hg := blk_later hGF0.out hC
      have c14 := blk_cell hg 14
      simp at c14
      simp [execOp, go_sem, kc, t12, c14]
      exact ⟨hC, Below.refl _ _, rfl⟩
    · refine ⟨rfl, fun v W ρ hC kc kf ks ki kd => ?_⟩
      have t1 : ρ (.tmp 1) = .pointer (some ⟨w.heap.size, 0, none⟩) := ki 1 (by decide)
      simp [execOp, go_sem, kc, t1]
      exact ⟨hC, Below.refl _ _, rfl⟩
    · refine ⟨rfl, fun v W ρ hC kc kf ks ki kd => ?_⟩
      have d11 : v 11 = .pointer (some ⟨w.heap.size, 15, none⟩) := by first | exact kd _ (mem0 rfl) rfl | exact kd _ (mem1 rfl) rfl | exact kd _ (mem2 rfl) rfl | exact kd _ (mem3 rfl) rfl | exact kd _ (mem4 rfl) rfl | exact kd _ (mem5 rfl) rfl | exact kd _ (Array.mem_of_getElem? (i := 6) rfl) rfl | exact kd _ (Array.mem_of_getElem? (i := 7) rfl) rfl
      have t14 : ρ (.tmp 14) = .pointer (some ⟨w.heap.size, 15, none⟩) := (ks 11 14 (by decide) rfl).trans d11
      have hg := blk_later hGF0.out hC
      have c15 := blk_cell hg 15
      simp at c15
      simp [execOp, go_sem, kc, t14, c15]
      exact ⟨hC, Below.refl _ _, rfl⟩
    · refine ⟨rfl, fun v W ρ hC kc kf ks ki kd => ?_⟩
      have t1 : ρ (.tmp 1) = .pointer (some ⟨w.heap.size, 0, none⟩) := ki 1 (by decide)
      simp [execOp, go_sem, kc, t1]
      exact ⟨hC, Below.refl _ _, rfl⟩
    · refine ⟨rfl, fun v W ρ hC kc kf ks ki kd => ?_⟩
      have d13 : v 13 = .pointer (some ⟨w.heap.size, 16, none⟩) := by first | exact kd _ (mem0 rfl) rfl | exact kd _ (mem1 rfl) rfl | exact kd _ (mem2 rfl) rfl | exact kd _ (mem3 rfl) rfl | exact kd _ (mem4 rfl) rfl | exact kd _ (mem5 rfl) rfl | exact kd _ (Array.mem_of_getElem? (i := 6) rfl) rfl | exact kd _ (Array.mem_of_getElem? (i := 7) rfl) rfl
      have t16 : ρ (.tmp 16) = .pointer (some ⟨w.heap.size, 16, none⟩) := (ks 13 16 (by decide) rfl).trans d13
      have hg := blk_later hGF0.out hC
      have c16 := blk_cell hg 16
      simp at c16
      simp [execOp, go_sem, kc, t16, c16]
      exact ⟨hC, Below.refl _ _, rfl⟩
    · refine ⟨rfl, fun v W ρ hC kc kf ks ki kd => ?_⟩
      have d4 : v 4 = .agg #[.int .i64 f.orig.proto, .int .i64 f.orig.src, .int .i64 f.orig.sport, .int .i64 f.orig.dst, .int .i64 f.orig.dport, .int .i64 f.orig.kind, .int .i64 f.back.proto, .int .i64 f.back.src, .int .i64 f.back.sport, .int .i64 f.back.dst, .int .i64 f.back.dport, .int .i64 f.back.kind] := by first | exact kd _ (mem0 rfl) rfl | exact kd _ (mem1 rfl) rfl | exact kd _ (mem2 rfl) rfl | exact kd _ (mem3 rfl) rfl | exact kd _ (mem4 rfl) rfl | exact kd _ (mem5 rfl) rfl | exact kd _ (Array.mem_of_getElem? (i := 6) rfl) rfl | exact kd _ (Array.mem_of_getElem? (i := 7) rfl) rfl
      have t7 : ρ (.tmp 7) = .agg #[.int .i64 f.orig.proto, .int .i64 f.orig.src, .int .i64 f.orig.sport, .int .i64 f.orig.dst, .int .i64 f.orig.dport, .int .i64 f.orig.kind, .int .i64 f.back.proto, .int .i64 f.back.src, .int .i64 f.back.sport, .int .i64 f.back.dst, .int .i64 f.back.dport, .int .i64 f.back.kind] := (ks 4 7 (by decide) rfl).trans d4
      have d6 : v 6 = .int .i64 f.state := by first | exact kd _ (mem0 rfl) rfl | exact kd _ (mem1 rfl) rfl | exact kd _ (mem2 rfl) rfl | exact kd _ (mem3 rfl) rfl | exact kd _ (mem4 rfl) rfl | exact kd _ (mem5 rfl) rfl | exact kd _ (Array.mem_of_getElem? (i := 6) rfl) rfl | exact kd _ (Array.mem_of_getElem? (i := 7) rfl) rfl
      have t9 : ρ (.tmp 9) = .int .i64 f.state := (ks 6 9 (by decide) rfl).trans d6
      have d8 : v 8 = .bool f.seen := by first | exact kd _ (mem0 rfl) rfl | exact kd _ (mem1 rfl) rfl | exact kd _ (mem2 rfl) rfl | exact kd _ (mem3 rfl) rfl | exact kd _ (mem4 rfl) rfl | exact kd _ (mem5 rfl) rfl | exact kd _ (Array.mem_of_getElem? (i := 6) rfl) rfl | exact kd _ (Array.mem_of_getElem? (i := 7) rfl) rfl
      have t11 : ρ (.tmp 11) = .bool f.seen := (ks 8 11 (by decide) rfl).trans d8
      have d10 : v 10 = .bool f.sure := by first | exact kd _ (mem0 rfl) rfl | exact kd _ (mem1 rfl) rfl | exact kd _ (mem2 rfl) rfl | exact kd _ (mem3 rfl) rfl | exact kd _ (mem4 rfl) rfl | exact kd _ (mem5 rfl) rfl | exact kd _ (Array.mem_of_getElem? (i := 6) rfl) rfl | exact kd _ (Array.mem_of_getElem? (i := 7) rfl) rfl
      have t13 : ρ (.tmp 13) = .bool f.sure := (ks 10 13 (by decide) rfl).trans d10
      have d12 : v 12 = .int .i64 f.till := by first | exact kd _ (mem0 rfl) rfl | exact kd _ (mem1 rfl) rfl | exact kd _ (mem2 rfl) rfl | exact kd _ (mem3 rfl) rfl | exact kd _ (mem4 rfl) rfl | exact kd _ (mem5 rfl) rfl | exact kd _ (Array.mem_of_getElem? (i := 6) rfl) rfl | exact kd _ (Array.mem_of_getElem? (i := 7) rfl) rfl
      have t15 : ρ (.tmp 15) = .int .i64 f.till := (ks 12 15 (by decide) rfl).trans d12
      have d14 : v 14 = .int .i64 f.count := by first | exact kd _ (mem0 rfl) rfl | exact kd _ (mem1 rfl) rfl | exact kd _ (mem2 rfl) rfl | exact kd _ (mem3 rfl) rfl | exact kd _ (mem4 rfl) rfl | exact kd _ (mem5 rfl) rfl | exact kd _ (Array.mem_of_getElem? (i := 6) rfl) rfl | exact kd _ (Array.mem_of_getElem? (i := 7) rfl) rfl
      have t17 : ρ (.tmp 17) = .int .i64 f.count := (ks 14 17 (by decide) rfl).trans d14
      simp [execOp, go_sem, kc, t7, t9, t11, t13, t15, t17]
      exact ⟨hC, Below.refl _ _, rfl⟩
  intro vA_1 WA_1 hBA_1 hgA_1 hall
  simp [upto, Act.put]
  clear hall
  have hEA_1 := hidS (hL0.out.trans (hBA_1 w.heap.size (by omega)))
  have hcA_1 := loadVar_blk (P := Tryd.prog) hgA_1 Tryd.underlying52 rfl (by kernel_rfl)
  clear hBA_1 hgA_1 hL0 hGF0 hGR0
  go_wp2_with fail
  exact bodyPost_ret (v := .agg #[.int .i64 f.orig.proto, .int .i64 f.orig.src, .int .i64 f.orig.sport, .int .i64 f.orig.dst, .int .i64 f.orig.dport, .int .i64 f.orig.kind, .int .i64 f.back.proto, .int .i64 f.back.src, .int .i64 f.back.sport, .int .i64 f.back.dst, .int .i64 f.back.dport, .int .i64 f.back.kind, .int .i64 f.state, .bool f.seen, .bool f.sure, .int .i64 f.till, .int .i64 f.count]) (results_cell Tryd.results20 rfl hcA_1) rfl ⟨rfl, hEA_1.out⟩
set_option maxHeartbeats 4000000 in
theorem haveForm_any (o b : Tp) (w : World) : Calls Tryd.prog 37 #[.agg #[.int .i64 o.proto, .int .i64 o.src, .int .i64 o.sport, .int .i64 o.dst, .int .i64 o.dport, .int .i64 o.kind, .int .i64 b.proto, .int .i64 b.src, .int .i64 b.sport, .int .i64 b.dst, .int .i64 b.dport, .int .i64 b.kind]] w fun e w' => e = .returned (.bool (formB o b)) ∧ Below w.heap.size w w' := by
  have E : Hid (formB o b = (rightT o && rightT b && o.proto == b.proto && (!(o.proto == 1) || (o.kind == 8 && b.kind == 0)))) := rfl
  have HO := hidS (fun W => implTRight_any o W)
  have HB := hidS (fun W => implTRight_any b W)
  have HP := hidS (fun W => arePing_any o b W)
  have hGE0 : Hid ((w.alloc (.cells #[.int .i64 o.proto, .int .i64 o.src, .int .i64 o.sport, .int .i64 o.dst, .int .i64 o.dport, .int .i64 o.kind, .int .i64 b.proto, .int .i64 b.src, .int .i64 b.sport, .int .i64 b.dst, .int .i64 b.dport, .int .i64 b.kind] 50)).heap[w.heap.size]? = some (.cells #[.int .i64 o.proto, .int .i64 o.src, .int .i64 o.sport, .int .i64 o.dst, .int .i64 o.dport, .int .i64 o.kind, .int .i64 b.proto, .int .i64 b.src, .int .i64 b.sport, .int .i64 b.dst, .int .i64 b.dport, .int .i64 b.kind] 50)) := by
    show _ = _
    have := heap_newG w (.cells #[.int .i64 o.proto, .int .i64 o.src, .int .i64 o.sport, .int .i64 o.dst, .int .i64 o.dport, .int .i64 o.kind, .int .i64 b.proto, .int .i64 b.src, .int .i64 b.sport, .int .i64 b.dst, .int .i64 b.dport, .int .i64 b.kind] 50)
    simpa using this
  have hL0 := hidS ((Below.refl w.heap.size w).alloc (Nat.le_refl _) (.cells #[.int .i64 o.proto, .int .i64 o.src, .int .i64 o.sport, .int .i64 o.dst, .int .i64 o.dport, .int .i64 o.kind, .int .i64 b.proto, .int .i64 b.src, .int .i64 b.sport, .int .i64 b.dst, .int .i64 b.dport, .int .i64 b.kind] 50))
  go_enter Tryd.func37, Tryd.ntmps37
  go_upto_region 1 with fail
  generalize (w.alloc (.cells #[.int .i64 o.proto, .int .i64 o.src, .int .i64 o.sport, .int .i64 o.dst, .int .i64 o.dport, .int .i64 o.kind, .int .i64 b.proto, .int .i64 b.src, .int .i64 b.sport, .int .i64 b.dst, .int .i64 b.dport, .int .i64 b.kind] 50)) = w0 at hGE0 hL0 ⊢
  have cE0 := blk_cell hGE0.out 0
  have cE1 := blk_cell hGE0.out 1
  have cE2 := blk_cell hGE0.out 2
  have cE3 := blk_cell hGE0.out 3
  have cE4 := blk_cell hGE0.out 4
  have cE5 := blk_cell hGE0.out 5
  have cE6 := blk_cell hGE0.out 6
  have cE7 := blk_cell hGE0.out 7
  have cE8 := blk_cell hGE0.out 8
  have cE9 := blk_cell hGE0.out 9
  have cE10 := blk_cell hGE0.out 10
  have cE11 := blk_cell hGE0.out 11
  simp at cE0 cE1 cE2 cE3 cE4 cE5 cE6 cE7 cE8 cE9 cE10 cE11
  go_wp2_with fail
  refine (HO.out _).mono ?_
  rintro _ w1 ⟨rfl, hb1⟩
  clear cE0 cE1 cE2 cE3 cE4 cE5 cE6 cE7 cE8 cE9 cE10 cE11
  have hGE1 := hidS (blk_later hGE0.out hb1)
  have hL1 := hidS (hL0.out.trans (hb1.mono hL0.out.size))
  clear hb1 hL0 hGE0
  cases h0 : rightT o
  · go_wp2_with fail
    go_ret
    exact ⟨by rw [E.out, h0]; rfl, hL1.out⟩
  have cE0 := blk_cell hGE1.out 0
  have cE1 := blk_cell hGE1.out 1
  have cE2 := blk_cell hGE1.out 2
  have cE3 := blk_cell hGE1.out 3
  have cE4 := blk_cell hGE1.out 4
  have cE5 := blk_cell hGE1.out 5
  have cE6 := blk_cell hGE1.out 6
  have cE7 := blk_cell hGE1.out 7
  have cE8 := blk_cell hGE1.out 8
  have cE9 := blk_cell hGE1.out 9
  have cE10 := blk_cell hGE1.out 10
  have cE11 := blk_cell hGE1.out 11
  simp at cE0 cE1 cE2 cE3 cE4 cE5 cE6 cE7 cE8 cE9 cE10 cE11
  go_wp2_with fail
  refine (HB.out _).mono ?_
  rintro _ w2 ⟨rfl, hb2⟩
  clear cE0 cE1 cE2 cE3 cE4 cE5 cE6 cE7 cE8 cE9 cE10 cE11
  have hGE2 := hidS (blk_later hGE1.out hb2)
  have hL2 := hidS (hL1.out.trans (hb2.mono hL1.out.size))
  clear hb2 hL1 hGE1
  cases h1 : rightT b
  · go_wp2_with fail
    go_ret
    exact ⟨by rw [E.out, h0, h1]; rfl, hL2.out⟩
  have cE0 := blk_cell hGE2.out 0
  have cE1 := blk_cell hGE2.out 1
  have cE2 := blk_cell hGE2.out 2
  have cE3 := blk_cell hGE2.out 3
  have cE4 := blk_cell hGE2.out 4
  have cE5 := blk_cell hGE2.out 5
  have cE6 := blk_cell hGE2.out 6
  have cE7 := blk_cell hGE2.out 7
  have cE8 := blk_cell hGE2.out 8
  have cE9 := blk_cell hGE2.out 9
  have cE10 := blk_cell hGE2.out 10
  have cE11 := blk_cell hGE2.out 11
  simp at cE0 cE1 cE2 cE3 cE4 cE5 cE6 cE7 cE8 cE9 cE10 cE11
  cases h2 : (o.proto == b.proto)
  · have q2 : (o.proto != b.proto) = true := by unfold bne; rw [h2]; rfl
    go_wp2_with fail
    go_ret
    exact ⟨by rw [E.out, h0, h1, h2]; rfl, hL2.out⟩
  have q2 : (o.proto != b.proto) = false := by unfold bne; rw [h2]; rfl
  go_upto_region 3 with fail
  clear cE0 cE1 cE2 cE3 cE4 cE5 cE6 cE7 cE8 cE9 cE10 cE11
  go_wp2_with (first | refine wpList_load_blk 50 (.tmp 1) rfl rfl rfl hGE2.out Tryd.underlying50 rfl (by kernel_rfl) ?_)
  refine (HP.out _).mono ?_
  rintro _ w3 ⟨rfl, hb3⟩
  have hGE3 := hidS (blk_later hGE2.out hb3)
  have hL3 := hidS (hL2.out.trans (hb3.mono hL2.out.size))
  clear hb3 hL2 hGE2
  cases h3 : (o.proto == 1)
  · go_wp2_with fail
    go_ret
    exact ⟨by rw [E.out, h0, h1, h2, h3]; rfl, hL3.out⟩
  have cE0 := blk_cell hGE3.out 0
  have cE1 := blk_cell hGE3.out 1
  have cE2 := blk_cell hGE3.out 2
  have cE3 := blk_cell hGE3.out 3
  have cE4 := blk_cell hGE3.out 4
  have cE5 := blk_cell hGE3.out 5
  have cE6 := blk_cell hGE3.out 6
  have cE7 := blk_cell hGE3.out 7
  have cE8 := blk_cell hGE3.out 8
  have cE9 := blk_cell hGE3.out 9
  have cE10 := blk_cell hGE3.out 10
  have cE11 := blk_cell hGE3.out 11
  simp at cE0 cE1 cE2 cE3 cE4 cE5 cE6 cE7 cE8 cE9 cE10 cE11
  cases h4 : (o.kind == 8)
  · go_wp2_with fail
    go_ret
    exact ⟨by rw [E.out, h0, h1, h2, h3, h4]; rfl, hL3.out⟩
  cases h5 : (b.kind == 0)
  · go_wp2_with fail
    go_ret
    exact ⟨by rw [E.out, h0, h1, h2, h3, h4, h5]; rfl, hL3.out⟩
  go_wp2_with fail
  go_ret
  exact ⟨by rw [E.out, h0, h1, h2, h3, h4, h5]; rfl, hL3.out⟩
set_option maxHeartbeats 4000000 in
theorem isInState_any (f : Fl) (w : World) : Calls Tryd.prog 38 #[.agg #[.int .i64 f.orig.proto, .int .i64 f.orig.src, .int .i64 f.orig.sport, .int .i64 f.orig.dst, .int .i64 f.orig.dport, .int .i64 f.orig.kind, .int .i64 f.back.proto, .int .i64 f.back.src, .int .i64 f.back.sport, .int .i64 f.back.dst, .int .i64 f.back.dport, .int .i64 f.back.kind, .int .i64 f.state, .bool f.seen, .bool f.sure, .int .i64 f.till, .int .i64 f.count]] w fun e w' => e = .returned (.bool (stateB f)) ∧ Below w.heap.size w w' := by
  have E : Hid (stateB f = if f.orig.proto = 6 then stB f.state && !(f.state == 0) else f.state == 0) := rfl
  have HT := hidS (fun W => areTcp_any f.orig f.back W)
  have HS := hidS (fun W => isState_any f.state W)
  have hGK0 : Hid ((w.alloc (.cells #[.int .i64 f.orig.proto, .int .i64 f.orig.src, .int .i64 f.orig.sport, .int .i64 f.orig.dst, .int .i64 f.orig.dport, .int .i64 f.orig.kind, .int .i64 f.back.proto, .int .i64 f.back.src, .int .i64 f.back.sport, .int .i64 f.back.dst, .int .i64 f.back.dport, .int .i64 f.back.kind, .int .i64 f.state, .bool f.seen, .bool f.sure, .int .i64 f.till, .int .i64 f.count] 52)).heap[w.heap.size]? = some (.cells #[.int .i64 f.orig.proto, .int .i64 f.orig.src, .int .i64 f.orig.sport, .int .i64 f.orig.dst, .int .i64 f.orig.dport, .int .i64 f.orig.kind, .int .i64 f.back.proto, .int .i64 f.back.src, .int .i64 f.back.sport, .int .i64 f.back.dst, .int .i64 f.back.dport, .int .i64 f.back.kind, .int .i64 f.state, .bool f.seen, .bool f.sure, .int .i64 f.till, .int .i64 f.count] 52)) := by
    show _ = _
    have := heap_newG w (.cells #[.int .i64 f.orig.proto, .int .i64 f.orig.src, .int .i64 f.orig.sport, .int .i64 f.orig.dst, .int .i64 f.orig.dport, .int .i64 f.orig.kind, .int .i64 f.back.proto, .int .i64 f.back.src, .int .i64 f.back.sport, .int .i64 f.back.dst, .int .i64 f.back.dport, .int .i64 f.back.kind, .int .i64 f.state, .bool f.seen, .bool f.sure, .int .i64 f.till, .int .i64 f.count] 52)
    simpa using this
  have hL0 := hidS ((Below.refl w.heap.size w).alloc (Nat.le_refl _) (.cells #[.int .i64 f.orig.proto, .int .i64 f.orig.src, .int .i64 f.orig.sport, .int .i64 f.orig.dst, .int .i64 f.orig.dport, .int .i64 f.orig.kind, .int .i64 f.back.proto, .int .i64 f.back.src, .int .i64 f.back.sport, .int .i64 f.back.dst, .int .i64 f.back.dport, .int .i64 f.back.kind, .int .i64 f.state, .bool f.seen, .bool f.sure, .int .i64 f.till, .int .i64 f.count] 52))
  go_enter Tryd.func38, Tryd.ntmps38
  go_upto_region 1 with fail
  generalize (w.alloc (.cells #[.int .i64 f.orig.proto, .int .i64 f.orig.src, .int .i64 f.orig.sport, .int .i64 f.orig.dst, .int .i64 f.orig.dport, .int .i64 f.orig.kind, .int .i64 f.back.proto, .int .i64 f.back.src, .int .i64 f.back.sport, .int .i64 f.back.dst, .int .i64 f.back.dport, .int .i64 f.back.kind, .int .i64 f.state, .bool f.seen, .bool f.sure, .int .i64 f.till, .int .i64 f.count] 52)) = w0 at hGK0 hL0 ⊢
  go_wp2_with (first | refine wpList_load_part 50 (.tmp 3) rfl rfl (o := 0) [.int .i64 f.orig.proto, .int .i64 f.orig.src, .int .i64 f.orig.sport, .int .i64 f.orig.dst, .int .i64 f.orig.dport, .int .i64 f.orig.kind, .int .i64 f.back.proto, .int .i64 f.back.src, .int .i64 f.back.sport, .int .i64 f.back.dst, .int .i64 f.back.dport, .int .i64 f.back.kind] rfl hGK0.out rfl Tryd.underlying50 rfl (by kernel_rfl) ?_)
  refine (HT.out _).mono ?_
  rintro _ w1 ⟨rfl, hb1⟩
  have hGK1 := hidS (blk_later hGK0.out hb1)
  have hL1 := hidS (hL0.out.trans (hb1.mono hL0.out.size))
  clear hb1 hL0 hGK0
  have cK0 := blk_cell hGK1.out 0
  have cK1 := blk_cell hGK1.out 1
  have cK2 := blk_cell hGK1.out 2
  have cK3 := blk_cell hGK1.out 3
  have cK4 := blk_cell hGK1.out 4
  have cK5 := blk_cell hGK1.out 5
  have cK6 := blk_cell hGK1.out 6
  have cK7 := blk_cell hGK1.out 7
  have cK8 := blk_cell hGK1.out 8
  have cK9 := blk_cell hGK1.out 9
  have cK10 := blk_cell hGK1.out 10
  have cK11 := blk_cell hGK1.out 11
  have cK12 := blk_cell hGK1.out 12
  have cK13 := blk_cell hGK1.out 13
  have cK14 := blk_cell hGK1.out 14
  have cK15 := blk_cell hGK1.out 15
  have cK16 := blk_cell hGK1.out 16
  simp at cK0 cK1 cK2 cK3 cK4 cK5 cK6 cK7 cK8 cK9 cK10 cK11 cK12 cK13 cK14 cK15 cK16
  cases h6 : (f.orig.proto == 6)
  · have E2 := hidS (E.out.trans (if_neg (beq_eq_false_iff_ne.1 h6)))
    go_wp2_with fail
    go_ret
    exact ⟨by rw [E2.out]; rfl, hL1.out⟩
  have E2 := hidS (E.out.trans (if_pos (beq_iff_eq.1 h6)))
  go_wp2_with fail
  refine (HS.out _).mono ?_
  rintro _ v ⟨rfl, hv⟩
  rw [hv]
  clear hv v
  cases h7 : stB f.state
  · go_wp2_with fail
    go_ret
    exact ⟨by rw [E2.out, h7]; rfl, hL1.out⟩
  cases h8 : (f.state == 0)
  · have q8 : (f.state != 0) = true := by unfold bne; rw [h8]; rfl
    go_wp2_with fail
    go_ret
    exact ⟨by rw [E2.out, h7, h8]; rfl, hL1.out⟩
  have q8 : (f.state != 0) = false := by unfold bne; rw [h8]; rfl
  go_wp2_with fail
  go_ret
  exact ⟨by rw [E2.out, h7, h8]; rfl, hL1.out⟩
set_option maxHeartbeats 4000000 in
theorem isRight_any (f : Fl) (w : World) : Calls Tryd.prog 21 #[.agg #[.int .i64 f.orig.proto, .int .i64 f.orig.src, .int .i64 f.orig.sport, .int .i64 f.orig.dst, .int .i64 f.orig.dport, .int .i64 f.orig.kind, .int .i64 f.back.proto, .int .i64 f.back.src, .int .i64 f.back.sport, .int .i64 f.back.dst, .int .i64 f.back.dport, .int .i64 f.back.kind, .int .i64 f.state, .bool f.seen, .bool f.sure, .int .i64 f.till, .int .i64 f.count]] w fun e w' => e = .returned (.bool (rightF f)) ∧ Below w.heap.size w w' := by
  have E : Hid (rightF f = (formB f.orig f.back && stateB f && (f.seen || !f.sure) && (tmB f.till && tmB f.count) && decide (0 < f.count))) := (rightK_eq f).symm
  have HF := hidS (fun W => haveForm_any f.orig f.back W)
  have HS := hidS (fun W => isInState_any f W)
  have hGK0 : Hid ((w.alloc (.cells #[.int .i64 f.orig.proto, .int .i64 f.orig.src, .int .i64 f.orig.sport, .int .i64 f.orig.dst, .int .i64 f.orig.dport, .int .i64 f.orig.kind, .int .i64 f.back.proto, .int .i64 f.back.src, .int .i64 f.back.sport, .int .i64 f.back.dst, .int .i64 f.back.dport, .int .i64 f.back.kind, .int .i64 f.state, .bool f.seen, .bool f.sure, .int .i64 f.till, .int .i64 f.count] 52)).heap[w.heap.size]? = some (.cells #[.int .i64 f.orig.proto, .int .i64 f.orig.src, .int .i64 f.orig.sport, .int .i64 f.orig.dst, .int .i64 f.orig.dport, .int .i64 f.orig.kind, .int .i64 f.back.proto, .int .i64 f.back.src, .int .i64 f.back.sport, .int .i64 f.back.dst, .int .i64 f.back.dport, .int .i64 f.back.kind, .int .i64 f.state, .bool f.seen, .bool f.sure, .int .i64 f.till, .int .i64 f.count] 52)) := by
    show _ = _
    have := heap_newG w (.cells #[.int .i64 f.orig.proto, .int .i64 f.orig.src, .int .i64 f.orig.sport, .int .i64 f.orig.dst, .int .i64 f.orig.dport, .int .i64 f.orig.kind, .int .i64 f.back.proto, .int .i64 f.back.src, .int .i64 f.back.sport, .int .i64 f.back.dst, .int .i64 f.back.dport, .int .i64 f.back.kind, .int .i64 f.state, .bool f.seen, .bool f.sure, .int .i64 f.till, .int .i64 f.count] 52)
    simpa using this
  have hL0 := hidS ((Below.refl w.heap.size w).alloc (Nat.le_refl _) (.cells #[.int .i64 f.orig.proto, .int .i64 f.orig.src, .int .i64 f.orig.sport, .int .i64 f.orig.dst, .int .i64 f.orig.dport, .int .i64 f.orig.kind, .int .i64 f.back.proto, .int .i64 f.back.src, .int .i64 f.back.sport, .int .i64 f.back.dst, .int .i64 f.back.dport, .int .i64 f.back.kind, .int .i64 f.state, .bool f.seen, .bool f.sure, .int .i64 f.till, .int .i64 f.count] 52))
  go_enter Tryd.func21, Tryd.ntmps21
  go_upto_region 1 with fail
  generalize (w.alloc (.cells #[.int .i64 f.orig.proto, .int .i64 f.orig.src, .int .i64 f.orig.sport, .int .i64 f.orig.dst, .int .i64 f.orig.dport, .int .i64 f.orig.kind, .int .i64 f.back.proto, .int .i64 f.back.src, .int .i64 f.back.sport, .int .i64 f.back.dst, .int .i64 f.back.dport, .int .i64 f.back.kind, .int .i64 f.state, .bool f.seen, .bool f.sure, .int .i64 f.till, .int .i64 f.count] 52)) = w0 at hGK0 hL0 ⊢
  go_wp2_with (first | refine wpList_load_part 50 (.tmp 3) rfl rfl (o := 0) [.int .i64 f.orig.proto, .int .i64 f.orig.src, .int .i64 f.orig.sport, .int .i64 f.orig.dst, .int .i64 f.orig.dport, .int .i64 f.orig.kind, .int .i64 f.back.proto, .int .i64 f.back.src, .int .i64 f.back.sport, .int .i64 f.back.dst, .int .i64 f.back.dport, .int .i64 f.back.kind] rfl hGK0.out rfl Tryd.underlying50 rfl (by kernel_rfl) ?_)
  refine (HF.out _).mono ?_
  rintro _ w1 ⟨rfl, hb1⟩
  have hGK1 := hidS (blk_later hGK0.out hb1)
  have hL1 := hidS (hL0.out.trans (hb1.mono hL0.out.size))
  clear hb1 hL0 hGK0
  cases h0 : formB f.orig f.back
  · go_wp2_with fail
    go_ret
    exact ⟨by rw [E.out, h0]; rfl, hL1.out⟩
  go_wp2_with (first | refine wpList_load_blk 52 (.tmp 1) rfl rfl rfl hGK1.out Tryd.underlying52 rfl (by kernel_rfl) ?_)
  refine (HS.out _).mono ?_
  rintro _ w2 ⟨rfl, hb2⟩
  have hGK2 := hidS (blk_later hGK1.out hb2)
  have hL2 := hidS (hL1.out.trans (hb2.mono hL1.out.size))
  clear hb2 hL1 hGK1
  cases h1 : stateB f
  · go_wp2_with fail
    go_ret
    exact ⟨by rw [E.out, h0, h1]; rfl, hL2.out⟩
  have cK0 := blk_cell hGK2.out 0
  have cK1 := blk_cell hGK2.out 1
  have cK2 := blk_cell hGK2.out 2
  have cK3 := blk_cell hGK2.out 3
  have cK4 := blk_cell hGK2.out 4
  have cK5 := blk_cell hGK2.out 5
  have cK6 := blk_cell hGK2.out 6
  have cK7 := blk_cell hGK2.out 7
  have cK8 := blk_cell hGK2.out 8
  have cK9 := blk_cell hGK2.out 9
  have cK10 := blk_cell hGK2.out 10
  have cK11 := blk_cell hGK2.out 11
  have cK12 := blk_cell hGK2.out 12
  have cK13 := blk_cell hGK2.out 13
  have cK14 := blk_cell hGK2.out 14
  have cK15 := blk_cell hGK2.out 15
  have cK16 := blk_cell hGK2.out 16
  simp at cK0 cK1 cK2 cK3 cK4 cK5 cK6 cK7 cK8 cK9 cK10 cK11 cK12 cK13 cK14 cK15 cK16
  cases hn : f.seen
  · cases hu : f.sure
    · go_wp2_with fail
      refine (areTm_two w2.heap.size f.till f.count _ (blk_cell (heap_newG w2 (.cells #[.int .i64 f.till, .int .i64 f.count] 2)) 0) (blk_cell (heap_newG w2 (.cells #[.int .i64 f.till, .int .i64 f.count] 2)) 1)).mono ?_
      rintro _ v9 ⟨rfl, hv9⟩
      rw [hv9]
      clear hv9 v9
      clear cK0 cK1 cK2 cK3 cK4 cK5 cK6 cK7 cK8 cK9 cK10 cK11 cK12 cK13 cK14 cK15 cK16
      have hGA3 := hidS (heap_newG w2 (.cells #[.int .i64 f.till, .int .i64 f.count] 2))
      have nA := blk_lt hGK2.out
      have hGK3 := hidS (blk_alloc hGK2.out (.cells #[.int .i64 f.till, .int .i64 f.count] 2))
      have hL3 := hidS (hL2.out.alloc hL2.out.size (.cells #[.int .i64 f.till, .int .i64 f.count] 2))
      clear hL2 hGK2
      generalize w2.alloc (.cells #[.int .i64 f.till, .int .i64 f.count] 2) = w3 at hGK3 hGA3 hL3 ⊢
      cases h4 : (tmB f.till && tmB f.count)
      · go_wp2_with fail
        go_ret
        exact ⟨by rw [E.out, h0, h1, hn, hu, h4]; rfl, hL3.out⟩
      have cK0 := blk_cell hGK3.out 0
      have cK1 := blk_cell hGK3.out 1
      have cK2 := blk_cell hGK3.out 2
      have cK3 := blk_cell hGK3.out 3
      have cK4 := blk_cell hGK3.out 4
      have cK5 := blk_cell hGK3.out 5
      have cK6 := blk_cell hGK3.out 6
      have cK7 := blk_cell hGK3.out 7
      have cK8 := blk_cell hGK3.out 8
      have cK9 := blk_cell hGK3.out 9
      have cK10 := blk_cell hGK3.out 10
      have cK11 := blk_cell hGK3.out 11
      have cK12 := blk_cell hGK3.out 12
      have cK13 := blk_cell hGK3.out 13
      have cK14 := blk_cell hGK3.out 14
      have cK15 := blk_cell hGK3.out 15
      have cK16 := blk_cell hGK3.out 16
      simp at cK0 cK1 cK2 cK3 cK4 cK5 cK6 cK7 cK8 cK9 cK10 cK11 cK12 cK13 cK14 cK15 cK16
      have E5 := hidS (E.out.trans (by rw [h0, h1, hn, hu, h4]))
      go_wp2_with fail
      go_ret
      exact ⟨by rw [E5.out]; rfl, hL3.out⟩
    · go_wp2_with fail
      go_ret
      exact ⟨by rw [E.out, h0, h1, hn, hu]; rfl, hL2.out⟩
  go_wp2_with fail
  refine (areTm_two w2.heap.size f.till f.count _ (blk_cell (heap_newG w2 (.cells #[.int .i64 f.till, .int .i64 f.count] 2)) 0) (blk_cell (heap_newG w2 (.cells #[.int .i64 f.till, .int .i64 f.count] 2)) 1)).mono ?_
  rintro _ v9 ⟨rfl, hv9⟩
  rw [hv9]
  clear hv9 v9
  clear cK0 cK1 cK2 cK3 cK4 cK5 cK6 cK7 cK8 cK9 cK10 cK11 cK12 cK13 cK14 cK15 cK16
  have hGA3 := hidS (heap_newG w2 (.cells #[.int .i64 f.till, .int .i64 f.count] 2))
  have nA := blk_lt hGK2.out
  have hGK3 := hidS (blk_alloc hGK2.out (.cells #[.int .i64 f.till, .int .i64 f.count] 2))
  have hL3 := hidS (hL2.out.alloc hL2.out.size (.cells #[.int .i64 f.till, .int .i64 f.count] 2))
  clear hL2 hGK2
  generalize w2.alloc (.cells #[.int .i64 f.till, .int .i64 f.count] 2) = w3 at hGK3 hGA3 hL3 ⊢
  cases h4 : (tmB f.till && tmB f.count)
  · go_wp2_with fail
    go_ret
    exact ⟨by rw [E.out, h0, h1, hn, h4]; rfl, hL3.out⟩
  have cK0 := blk_cell hGK3.out 0
  have cK1 := blk_cell hGK3.out 1
  have cK2 := blk_cell hGK3.out 2
  have cK3 := blk_cell hGK3.out 3
  have cK4 := blk_cell hGK3.out 4
  have cK5 := blk_cell hGK3.out 5
  have cK6 := blk_cell hGK3.out 6
  have cK7 := blk_cell hGK3.out 7
  have cK8 := blk_cell hGK3.out 8
  have cK9 := blk_cell hGK3.out 9
  have cK10 := blk_cell hGK3.out 10
  have cK11 := blk_cell hGK3.out 11
  have cK12 := blk_cell hGK3.out 12
  have cK13 := blk_cell hGK3.out 13
  have cK14 := blk_cell hGK3.out 14
  have cK15 := blk_cell hGK3.out 15
  have cK16 := blk_cell hGK3.out 16
  simp at cK0 cK1 cK2 cK3 cK4 cK5 cK6 cK7 cK8 cK9 cK10 cK11 cK12 cK13 cK14 cK15 cK16
  have E5 := hidS (E.out.trans (by rw [h0, h1, hn, h4]))
  go_wp2_with fail
  go_ret
  exact ⟨by rw [E5.out]; rfl, hL3.out⟩
end Go.Proofs.YtbhemimhmkgfiaaDoor
