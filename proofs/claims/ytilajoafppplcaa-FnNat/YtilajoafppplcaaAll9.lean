/- Proved here: small facts on a tuple in the making, beside a source (no program of its own). · Proved here: small facts on a packet in the making, beside a source (no program of its own). -/
import Derived.Test.YtilajoafppplcaaAll3
import Derived.Test.YtilajoafppplcaaAll5
import Derived.Test.YtilajoafppplcaaAll1
section
namespace Go.Proofs.Ytilajoafppplcaa
open Go.ChangeShapes Go.WideShapes Go.ChangeAt Go.RowKit
set_option linter.unusedVariables false
set_option linter.unusedSimpArgs false

/-- a tuple t is in the making in block g, beside a source in block B; the answer's block is still as it was made -/
structure TpSt (B : Nat) (a : Option Addr) (len cap : Nat) (w : World) (g : Nat) (t : Tp) (W : World) : Prop where
  src : Src B a len cap W
  grown : w.grownBy W (some B)
  res : W.heap[w.heap.size]? = some (.cells #[.int .i64 0, .int .i64 0, .int .i64 0, .int .i64 0, .int .i64 0, .int .i64 0] 52)
  loc : W.heap[g]? = some (.cells #[.int .i64 t.proto, .int .i64 t.src, .int .i64 t.sport, .int .i64 t.dst, .int .i64 t.dport, .int .i64 t.kind] 52)
  lt : w.heap.size < g
  old : B < w.heap.size
variable {B : Nat} {a : Option Addr} {len cap : Nat} {w : World} {g : Nat} {t : Tp} {W W' : World}
theorem TpSt.later (h : TpSt B a len cap w g t W) (hS : Src B a len cap W') (hg : W.grownBy W' (some B)) : TpSt B a len cap w g t W' :=
  ⟨hS, grown_trans h.grown hg, (hg.block _ (blk_lt h.res) (fun e => by injection e with e; have := h.old; omega)).trans h.res, (hg.block _ (blk_lt h.loc) (fun e => by injection e with e; have := h.old; have := h.lt; omega)).trans h.loc, h.lt, h.old⟩
theorem TpSt.only (h : TpSt B a len cap w g t W) (hS : Src B a len cap W') (hO : Only B W W') : TpSt B a len cap w g t W' := h.later hS hO.grown
theorem TpSt.alloc (h : TpSt B a len cap w g t W) (o : Obj) : TpSt B a len cap w g t (W.alloc o) :=
  h.later (h.src.kept fun k hk => Below.heap_alloc _ _ _ (by have := h.src.lt; omega)) (World.grownBy_alloc _ _ _)
theorem TpSt.set (h : TpSt B a len cap w g t W) (k : Nat) (v : Value) (q : Tp) (hq : (#[.int .i64 t.proto, .int .i64 t.src, .int .i64 t.sport, .int .i64 t.dst, .int .i64 t.dport, .int .i64 t.kind] : Array Value).setIfInBounds k v = #[.int .i64 q.proto, .int .i64 q.src, .int .i64 q.sport, .int .i64 q.dst, .int .i64 q.dport, .int .i64 q.kind]) : TpSt B a len cap w g q (W.setCell ⟨g, k, none⟩ v) := by
  have l1 := h.lt
  have l2 := h.old
  have ho : ∀ i, i ≠ g → (W.setCell ⟨g, k, none⟩ v).heap[i]? = W.heap[i]? := fun i hi => Below.heap_setCell W ⟨g, k, none⟩ v i hi
  have hz : (W.setCell ⟨g, k, none⟩ v).heap.size = W.heap.size := by simp [World.setCell]
  refine ⟨h.src.kept fun i hi => ho i (by omega), ⟨h.grown.os, h.grown.tape, h.grown.output, by rw [hz]; exact h.grown.size, fun i hi hne => (ho i (by omega)).trans (h.grown.block i hi hne)⟩, (ho _ (by omega)).trans h.res, ?_, l1, l2⟩
  rw [blk_set h.loc k v, hq]
theorem TpSt.set_proto (h : TpSt B a len cap w g t W) (x : Int) : TpSt B a len cap w g { t with proto := x } (W.setCell ⟨g, 0, none⟩ (.int .i64 x)) := h.set 0 _ _ rfl
theorem TpSt.set_dport (h : TpSt B a len cap w g t W) (x : Int) : TpSt B a len cap w g { t with dport := x } (W.setCell ⟨g, 4, none⟩ (.int .i64 x)) := h.set 4 _ _ rfl
theorem TpSt.set_kind (h : TpSt B a len cap w g t W) (x : Int) : TpSt B a len cap w g { t with kind := x } (W.setCell ⟨g, 5, none⟩ (.int .i64 x)) := h.set 5 _ _ rfl
end Go.Proofs.Ytilajoafppplcaa
end

section
namespace Go.Proofs.Ytilajoafppplcaa
open Go.ChangeShapes Go.WideShapes Go.ChangeAt Go.RowKit
set_option linter.unusedVariables false
set_option linter.unusedSimpArgs false

/-- a packet p is in the making in block g, beside a source in block B; the answer's block is still as it was made -/
structure PkSt (B : Nat) (a : Option Addr) (len cap : Nat) (w : World) (g : Nat) (p : Pk) (W : World) : Prop where
  src : Src B a len cap W
  grown : w.grownBy W (some B)
  res : W.heap[w.heap.size]? = some (.cells #[.int .i64 0, .int .i64 0, .int .i64 0, .int .i64 0, .int .i64 0, .int .i64 0, .int .i64 0, .int .i64 0, .int .i64 0, .string ⟨#[]⟩] 119)
  loc : W.heap[g]? = some (.cells #[.int .i64 p.src, .int .i64 p.dst, .int .i64 p.proto, .int .i64 p.a, .int .i64 p.b, .int .i64 p.kind, .int .i64 p.flags, .int .i64 p.seq, .int .i64 p.ack, .string p.body] 119)
  lt : w.heap.size < g
  old : B < w.heap.size
  body : p.body.size ≤ 101
variable {B : Nat} {a : Option Addr} {len cap : Nat} {w : World} {g : Nat} {p : Pk} {W W' : World}
theorem PkSt.later (h : PkSt B a len cap w g p W) (hS : Src B a len cap W') (hg : W.grownBy W' (some B)) : PkSt B a len cap w g p W' :=
  ⟨hS, grown_trans h.grown hg, (hg.block _ (blk_lt h.res) (fun e => by injection e with e; have := h.old; omega)).trans h.res, (hg.block _ (blk_lt h.loc) (fun e => by injection e with e; have := h.old; have := h.lt; omega)).trans h.loc, h.lt, h.old, h.body⟩
theorem PkSt.only (h : PkSt B a len cap w g p W) (hS : Src B a len cap W') (hO : Only B W W') : PkSt B a len cap w g p W' := h.later hS hO.grown
theorem PkSt.alloc (h : PkSt B a len cap w g p W) (o : Obj) : PkSt B a len cap w g p (W.alloc o) :=
  h.later (h.src.kept fun k hk => Below.heap_alloc _ _ _ (by have := h.src.lt; omega)) (World.grownBy_alloc _ _ _)
theorem PkSt.set (h : PkSt B a len cap w g p W) (k : Nat) (v : Value) (q : Pk) (hq : (#[.int .i64 p.src, .int .i64 p.dst, .int .i64 p.proto, .int .i64 p.a, .int .i64 p.b, .int .i64 p.kind, .int .i64 p.flags, .int .i64 p.seq, .int .i64 p.ack, .string p.body] : Array Value).setIfInBounds k v = #[.int .i64 q.src, .int .i64 q.dst, .int .i64 q.proto, .int .i64 q.a, .int .i64 q.b, .int .i64 q.kind, .int .i64 q.flags, .int .i64 q.seq, .int .i64 q.ack, .string q.body]) (hb : q.body.size ≤ 101) : PkSt B a len cap w g q (W.setCell ⟨g, k, none⟩ v) := by
  have l1 := h.lt
  have l2 := h.old
  have ho : ∀ i, i ≠ g → (W.setCell ⟨g, k, none⟩ v).heap[i]? = W.heap[i]? := fun i hi => Below.heap_setCell W ⟨g, k, none⟩ v i hi
  have hz : (W.setCell ⟨g, k, none⟩ v).heap.size = W.heap.size := by simp [World.setCell]
  refine ⟨h.src.kept fun i hi => ho i (by omega), ⟨h.grown.os, h.grown.tape, h.grown.output, by rw [hz]; exact h.grown.size, fun i hi hne => (ho i (by omega)).trans (h.grown.block i hi hne)⟩, (ho _ (by omega)).trans h.res, ?_, l1, l2, hb⟩
  rw [blk_set h.loc k v, hq]
theorem PkSt.set_src (h : PkSt B a len cap w g p W) (x : Int) : PkSt B a len cap w g { p with src := x } (W.setCell ⟨g, 0, none⟩ (.int .i64 x)) := h.set 0 _ _ rfl h.body
theorem PkSt.set_dst (h : PkSt B a len cap w g p W) (x : Int) : PkSt B a len cap w g { p with dst := x } (W.setCell ⟨g, 1, none⟩ (.int .i64 x)) := h.set 1 _ _ rfl h.body
theorem PkSt.set_proto (h : PkSt B a len cap w g p W) (x : Int) : PkSt B a len cap w g { p with proto := x } (W.setCell ⟨g, 2, none⟩ (.int .i64 x)) := h.set 2 _ _ rfl h.body
theorem PkSt.set_a (h : PkSt B a len cap w g p W) (x : Int) : PkSt B a len cap w g { p with a := x } (W.setCell ⟨g, 3, none⟩ (.int .i64 x)) := h.set 3 _ _ rfl h.body
theorem PkSt.set_b (h : PkSt B a len cap w g p W) (x : Int) : PkSt B a len cap w g { p with b := x } (W.setCell ⟨g, 4, none⟩ (.int .i64 x)) := h.set 4 _ _ rfl h.body
theorem PkSt.set_kind (h : PkSt B a len cap w g p W) (x : Int) : PkSt B a len cap w g { p with kind := x } (W.setCell ⟨g, 5, none⟩ (.int .i64 x)) := h.set 5 _ _ rfl h.body
theorem PkSt.set_flags (h : PkSt B a len cap w g p W) (x : Int) : PkSt B a len cap w g { p with flags := x } (W.setCell ⟨g, 6, none⟩ (.int .i64 x)) := h.set 6 _ _ rfl h.body
theorem PkSt.set_seq (h : PkSt B a len cap w g p W) (x : Int) : PkSt B a len cap w g { p with seq := x } (W.setCell ⟨g, 7, none⟩ (.int .i64 x)) := h.set 7 _ _ rfl h.body
theorem PkSt.set_ack (h : PkSt B a len cap w g p W) (x : Int) : PkSt B a len cap w g { p with ack := x } (W.setCell ⟨g, 8, none⟩ (.int .i64 x)) := h.set 8 _ _ rfl h.body
theorem PkSt.set_body (h : PkSt B a len cap w g p W) (s : ByteArray) (hs : s.size ≤ 101) : PkSt B a len cap w g { p with body := s } (W.setCell ⟨g, 9, none⟩ (.string s)) := h.set 9 _ _ rfl hs
theorem grown_set {w W : World} {r : Option Nat} (k : Nat) (v : Value) (h : w.grownBy W r) : w.grownBy (W.setCell ⟨w.heap.size, k, none⟩ v) r :=
  ⟨h.os, h.tape, h.output, by simp only [World.setCell, Array.size_setIfInBounds, Array.size_modify]; first | exact h.size | (have := h.size; simpa [World.setCell] using this), fun i hi hne => (Below.heap_setCell W ⟨w.heap.size, k, none⟩ v i (by simp; omega)).trans (h.block i hi hne)⟩
end Go.Proofs.Ytilajoafppplcaa
end
