/- Proved here: impl.portsOf answers an iterator that has captured its rule, its start and how many ports there are; and that iterator's contract (conditions: a right rule, a time). -/
import Derived.Test.YtpcflfhblomcoaaPortsI
import Derived.RangeFuncNested
import Derived.RangeFuncBound
import Derived.RangeFuncCalls
import Derived.Deep.Cut
namespace Go.Proofs.Ytpcflfhblomcoaa
open Go.RowKit Go.Shelf
set_option linter.unusedVariables false
set_option linter.unusedSimpArgs false
set_option maxRecDepth 100000

set_option maxHeartbeats 2000000 in
theorem portsOf_any (s : Rl) (start : Int) (w : World) (hsr : rightR s = true) :
    Calls Try.prog 123 #[.agg #[.int .i64 s.kind, .int .i64 s.proto, .int .i64 s.net, .int .i64 s.bits, .int .i64 s.goal, .int .i64 s.low, .int .i64 s.high], .int .i64 start] w fun e w' => ∃ Bm Bs Bq : Nat, e = .returned (.func (.func 144) #[] #[.pointer (some ⟨Bm, 0, none⟩), .pointer (some ⟨Bs, 0, none⟩), .pointer (some ⟨Bq, 0, none⟩)]) ∧
      w'.heap[Bm]? = some (.cells #[.int .i64 (manyR s)] 2) ∧ w'.heap[Bs]? = some (.cells #[.int .i64 s.kind, .int .i64 s.proto, .int .i64 s.net, .int .i64 s.bits, .int .i64 s.goal, .int .i64 s.low, .int .i64 s.high] 64) ∧ w'.heap[Bq]? = some (.cells #[.int .i64 start] 2) ∧ Below w.heap.size w w' := by
  have hmb := many_bd hsr
  obtain ⟨_, _, _, _, w1', w2', w3', _⟩ := right_parts hsr
  have w4 := word_iff.1 w1'
  have w5 := word_iff.1 w2'
  clear w1' w2'
  have hM : Hid (manyR s = s.high - s.low + 1) := rfl
  have hGR0 : Hid (((w.alloc (.cells #[.int .i64 s.kind, .int .i64 s.proto, .int .i64 s.net, .int .i64 s.bits, .int .i64 s.goal, .int .i64 s.low, .int .i64 s.high] 64)).alloc (.cells #[.int .i64 start] 2)).heap[w.heap.size]? = some (.cells #[.int .i64 s.kind, .int .i64 s.proto, .int .i64 s.net, .int .i64 s.bits, .int .i64 s.goal, .int .i64 s.low, .int .i64 s.high] 64)) := by
    show _ = _
    have := blk_alloc (heap_newG w (.cells #[.int .i64 s.kind, .int .i64 s.proto, .int .i64 s.net, .int .i64 s.bits, .int .i64 s.goal, .int .i64 s.low, .int .i64 s.high] 64)) (.cells #[.int .i64 start] 2)
    simpa using this
  have hGQ0 : Hid (((w.alloc (.cells #[.int .i64 s.kind, .int .i64 s.proto, .int .i64 s.net, .int .i64 s.bits, .int .i64 s.goal, .int .i64 s.low, .int .i64 s.high] 64)).alloc (.cells #[.int .i64 start] 2)).heap[w.heap.size + 1]? = some (.cells #[.int .i64 start] 2)) := by
    show _ = _
    have := heap_newG (w.alloc (.cells #[.int .i64 s.kind, .int .i64 s.proto, .int .i64 s.net, .int .i64 s.bits, .int .i64 s.goal, .int .i64 s.low, .int .i64 s.high] 64)) (.cells #[.int .i64 start] 2)
    simpa using this
  have hL0 := hidS (((Below.refl w.heap.size w).alloc (Nat.le_refl _) (.cells #[.int .i64 s.kind, .int .i64 s.proto, .int .i64 s.net, .int .i64 s.bits, .int .i64 s.goal, .int .i64 s.low, .int .i64 s.high] 64)).alloc (by simp) (.cells #[.int .i64 start] 2))
  go_enter Try.func123, Try.ntmps123
  go_upto_region 1 with fail
  generalize ((w.alloc (.cells #[.int .i64 s.kind, .int .i64 s.proto, .int .i64 s.net, .int .i64 s.bits, .int .i64 s.goal, .int .i64 s.low, .int .i64 s.high] 64)).alloc (.cells #[.int .i64 start] 2)) = w0 at hGR0 hGQ0 hL0 ⊢
  have hx1 : IntKind.i64.wrap (s.high - s.low) = s.high - s.low := IntWalk.i64_in _ (by omega)
  have hx2 : IntKind.i64.wrap (s.high - s.low + 1) = s.high - s.low + 1 := IntWalk.i64_in _ (by omega)
  have cR0 := blk_cell hGR0.out 0
  have cR1 := blk_cell hGR0.out 1
  have cR2 := blk_cell hGR0.out 2
  have cR3 := blk_cell hGR0.out 3
  have cR4 := blk_cell hGR0.out 4
  have cR5 := blk_cell hGR0.out 5
  have cR6 := blk_cell hGR0.out 6
  simp at cR0 cR1 cR2 cR3 cR4 cR5 cR6
  have cQ0 := blk_cell hGQ0.out 0
  simp at cQ0
  go_wp2_with fail
  go_ret
  exact ⟨_, _, _, rfl, heap_newG _ _, blk_alloc hGR0.out _, blk_alloc hGQ0.out _, hL0.out.alloc hL0.out.size _⟩
/-- the iterator's contract -/
theorem ports_stops (F : Fence) (n : Nat) (hfa : ∀ f, F.fn f) (hf : F.fn 144) (hro : F.round = none) (hn : 1 ≤ n) (Bm Bs Bq n₀ N : Nat) (s : Rl) (start : Int) (hsr : rightR s = true) (hs0 : 0 ≤ start) (hs1 : start ≤ 1000000) (hN : (N : Int) = manyR s) (w : World) (b1 : Bm < n₀) (b2 : Bs < n₀) (b3 : Bq < n₀) (hle : n₀ ≤ w.heap.size)
    (hm : w.heap[Bm]? = some (.cells #[.int .i64 (N : Int)] 2)) (hs : w.heap[Bs]? = some (.cells #[.int .i64 s.kind, .int .i64 s.proto, .int .i64 s.net, .int .i64 s.bits, .int .i64 s.goal, .int .i64 s.low, .int .i64 s.high] 64)) (hq : w.heap[Bq]? = some (.cells #[.int .i64 start] 2)) :
    SeqStopsK F n Try.prog 144 #[.pointer (some ⟨Bm, 0, none⟩), .pointer (some ⟨Bs, 0, none⟩), .pointer (some ⟨Bq, 0, none⟩)] (fun x : Int => #[Value.int .i64 x]) (Below n₀)
      (fun ys => ys = upF (fun k : Nat => portN s start k) N) (fun pre => ∃ k, k ≤ N ∧ pre = upF (fun k : Nat => portN s start k) k) N w := fun l J Jx W hW hJ _ hY h0 =>
  (ports1_in F n hfa hf hro hn l Bm Bs Bq n₀ N s start hsr hs0 hs1 hN b1 b2 b3 J Jx (fun pre V h => hJ pre V V.drew none h ⟨rfl, rfl, rfl, Nat.le_refl _, fun _ _ _ => rfl⟩ (fun r e => by cases e)) hY W ((hW.block _ (by omega)).trans hm) ((hW.block _ (by omega)).trans hs) ((hW.block _ (by omega)).trans hq) h0)
end Go.Proofs.Ytpcflfhblomcoaa
