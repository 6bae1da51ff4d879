/- Proved here: the laws' own eqTupleOut of two that are the same; all old memory stays (no conditions). · Proved here: nothing of a program: kinds of values, told of each operation of a region. -/
import Derived.Test.YtpcflfhblomcoaaAll13
import Derived.Test.YtpcflfhblomcoaaBlk
import Derived.Deep.Cut
section
namespace Go.Proofs.Ytpcflfhblomcoaa
open Go.ChangeShapes Go.WideShapes Go.ChangeAt Go.RowKit
set_option linter.unusedVariables false
set_option linter.unusedSimpArgs false

set_option maxHeartbeats 2000000 in
theorem eqTupleOut_same (q : Tp) (c : Int) (w : World) :
    Calls Try.prog 42 #[.agg #[.int .i64 q.proto, .int .i64 q.src, .int .i64 q.sport, .int .i64 q.dst, .int .i64 q.dport, .int .i64 q.kind, .int .i64 c], .agg #[.int .i64 q.proto, .int .i64 q.src, .int .i64 q.sport, .int .i64 q.dst, .int .i64 q.dport, .int .i64 q.kind, .int .i64 c]] w fun e w' => e = .returned (.bool true) ∧ Below w.heap.size w w' := by
  have HE := hidS (fun W => eqTuple_same q W)
  have hGA0 : Hid (((w.alloc (.cells #[.int .i64 q.proto, .int .i64 q.src, .int .i64 q.sport, .int .i64 q.dst, .int .i64 q.dport, .int .i64 q.kind, .int .i64 c] 57)).alloc (.cells #[.int .i64 q.proto, .int .i64 q.src, .int .i64 q.sport, .int .i64 q.dst, .int .i64 q.dport, .int .i64 q.kind, .int .i64 c] 57)).heap[w.heap.size]? = some (.cells #[.int .i64 q.proto, .int .i64 q.src, .int .i64 q.sport, .int .i64 q.dst, .int .i64 q.dport, .int .i64 q.kind, .int .i64 c] 57)) := by
    show _ = _
    have := blk_alloc (heap_newG w (.cells #[.int .i64 q.proto, .int .i64 q.src, .int .i64 q.sport, .int .i64 q.dst, .int .i64 q.dport, .int .i64 q.kind, .int .i64 c] 57)) (.cells #[.int .i64 q.proto, .int .i64 q.src, .int .i64 q.sport, .int .i64 q.dst, .int .i64 q.dport, .int .i64 q.kind, .int .i64 c] 57)
    simpa using this
  have hGB0 : Hid (((w.alloc (.cells #[.int .i64 q.proto, .int .i64 q.src, .int .i64 q.sport, .int .i64 q.dst, .int .i64 q.dport, .int .i64 q.kind, .int .i64 c] 57)).alloc (.cells #[.int .i64 q.proto, .int .i64 q.src, .int .i64 q.sport, .int .i64 q.dst, .int .i64 q.dport, .int .i64 q.kind, .int .i64 c] 57)).heap[w.heap.size + 1]? = some (.cells #[.int .i64 q.proto, .int .i64 q.src, .int .i64 q.sport, .int .i64 q.dst, .int .i64 q.dport, .int .i64 q.kind, .int .i64 c] 57)) := by
    show _ = _
    have := heap_newG (w.alloc (.cells #[.int .i64 q.proto, .int .i64 q.src, .int .i64 q.sport, .int .i64 q.dst, .int .i64 q.dport, .int .i64 q.kind, .int .i64 c] 57)) (.cells #[.int .i64 q.proto, .int .i64 q.src, .int .i64 q.sport, .int .i64 q.dst, .int .i64 q.dport, .int .i64 q.kind, .int .i64 c] 57)
    simpa using this
  have hL0 := hidS (((Below.refl w.heap.size w).alloc (Nat.le_refl _) (.cells #[.int .i64 q.proto, .int .i64 q.src, .int .i64 q.sport, .int .i64 q.dst, .int .i64 q.dport, .int .i64 q.kind, .int .i64 c] 57)).alloc (by simp) (.cells #[.int .i64 q.proto, .int .i64 q.src, .int .i64 q.sport, .int .i64 q.dst, .int .i64 q.dport, .int .i64 q.kind, .int .i64 c] 57))
  go_enter Try.func42, Try.ntmps42
  go_upto_region 1 with fail
  generalize ((w.alloc (.cells #[.int .i64 q.proto, .int .i64 q.src, .int .i64 q.sport, .int .i64 q.dst, .int .i64 q.dport, .int .i64 q.kind, .int .i64 c] 57)).alloc (.cells #[.int .i64 q.proto, .int .i64 q.src, .int .i64 q.sport, .int .i64 q.dst, .int .i64 q.dport, .int .i64 q.kind, .int .i64 c] 57)) = w0 at hGA0 hGB0 hL0 ⊢
  have cA0 := blk_cell hGA0.out 0
  have cA1 := blk_cell hGA0.out 1
  have cA2 := blk_cell hGA0.out 2
  have cA3 := blk_cell hGA0.out 3
  have cA4 := blk_cell hGA0.out 4
  have cA5 := blk_cell hGA0.out 5
  have cA6 := blk_cell hGA0.out 6
  simp at cA0 cA1 cA2 cA3 cA4 cA5 cA6
  have cB0 := blk_cell hGB0.out 0
  have cB1 := blk_cell hGB0.out 1
  have cB2 := blk_cell hGB0.out 2
  have cB3 := blk_cell hGB0.out 3
  have cB4 := blk_cell hGB0.out 4
  have cB5 := blk_cell hGB0.out 5
  have cB6 := blk_cell hGB0.out 6
  simp at cB0 cB1 cB2 cB3 cB4 cB5 cB6
  go_wp2_with fail
  refine (HE.out _).mono ?_
  rintro _ w1 ⟨rfl, hb1⟩
  clear cA0 cA1 cA2 cA3 cA4 cA5 cA6 cB0 cB1 cB2 cB3 cB4 cB5 cB6
  have hGA1 := hidS (blk_later hGA0.out hb1)
  have hGB1 := hidS (blk_later hGB0.out hb1)
  have hL1 := hidS (hL0.out.trans (hb1.mono hL0.out.size))
  clear hb1 hL0 hGA0 hGB0
  have cA0 := blk_cell hGA1.out 0
  have cA1 := blk_cell hGA1.out 1
  have cA2 := blk_cell hGA1.out 2
  have cA3 := blk_cell hGA1.out 3
  have cA4 := blk_cell hGA1.out 4
  have cA5 := blk_cell hGA1.out 5
  have cA6 := blk_cell hGA1.out 6
  simp at cA0 cA1 cA2 cA3 cA4 cA5 cA6
  have cB0 := blk_cell hGB1.out 0
  have cB1 := blk_cell hGB1.out 1
  have cB2 := blk_cell hGB1.out 2
  have cB3 := blk_cell hGB1.out 3
  have cB4 := blk_cell hGB1.out 4
  have cB5 := blk_cell hGB1.out 5
  have cB6 := blk_cell hGB1.out 6
  simp at cB0 cB1 cB2 cB3 cB4 cB5 cB6
  go_wp2_with fail
  go_ret
  exact ⟨rfl, hL1.out⟩
end Go.Proofs.Ytpcflfhblomcoaa
end

section
namespace Go.Proofs.Ytpcflfhblomcoaa
open Go.ChangeShapes Go.WideShapes Go.ChangeAt Go.RowKit
set_option linter.unusedVariables false

/-- a kind of value: what is said of it in a world -/
def Kp : Type := Value → World → Prop
def isP (x : Value) : Kp := fun v _ => v = x
def anyP : Kp := fun _ _ => True
def kpOf (ks : List Kp) (i : Nat) (v : Value) (w : World) : Prop := (ks.getD i anyP) v w
/-- it lasts while old memory stays -/
def LastsB (k : Kp) : Prop := ∀ v W W', k v W → Below W.heap.size W W' → k v W'
def AllLastB : List Kp → Prop
  | [] => True
  | k :: ks => LastsB k ∧ AllLastB ks
theorem all_lastB : ∀ (ks : List Kp), AllLastB ks → ∀ i v W W', kpOf ks i v W → Below W.heap.size W W' → kpOf ks i v W'
  | [], _, i, v, W, W', h, hg => by simp [kpOf, anyP]
  | k :: ks, hl, 0, v, W, W', h, hg => hl.1 v W W' h hg
  | k :: ks, hl, i + 1, v, W, W', h, hg => all_lastB ks hl.2 i v W W' h hg
end Go.Proofs.Ytpcflfhblomcoaa
end
