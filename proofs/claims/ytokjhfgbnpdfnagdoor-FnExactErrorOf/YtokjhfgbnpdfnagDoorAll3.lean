/- Proved here: small facts on a block of a call's own: its cells, what a store leaves (no program of its own). · Proved here: small facts on a packet that lies in a block (no program of its own). · Proved here: a literal slice of bytes, turned into a string, is these bytes (a bridge; no program of its own). -/
import Derived.Test.YtokjhfgbnpdfnagDoorGrow
import Derived.Test.YtokjhfgbnpdfnagDoorAll0
section
namespace Go.Proofs.YtokjhfgbnpdfnagDoor
open Go.ChangeShapes Go.WideShapes Go.ChangeAt Go.RowKit
set_option linter.unusedVariables false

/-- a block's cells, and that they may be written -/
theorem blk_cell {W : World} {B : Nat} {cs : Array Value} {t : TypeId} (h : W.heap[B]? = some (.cells cs t)) (k : Nat) : W.cell? ⟨B, k, none⟩ = cs[k]? := by simp [World.cell?, h]
theorem blk_free {W : World} {B : Nat} {cs : Array Value} {t : TypeId} (h : W.heap[B]? = some (.cells cs t)) (k : Nat) : W.frozen? ⟨B, k, none⟩ = false := by simp [World.frozen?, h]
theorem blk_lt {W : World} {B : Nat} {o : Obj} (h : W.heap[B]? = some o) : B < W.heap.size := (Array.getElem?_eq_some_iff.1 h).1
theorem blk_later {W W' : World} {B : Nat} {o : Obj} (h : W.heap[B]? = some o) (hb : Below W.heap.size W W') : W'.heap[B]? = some o := (hb.block B (blk_lt h)).trans h
/-- one cell is written -/
theorem blk_set {W : World} {B : Nat} {cs : Array Value} {t : TypeId} (h : W.heap[B]? = some (.cells cs t)) (k : Nat) (v : Value) : (W.setCell ⟨B, k, none⟩ v).heap[B]? = some (.cells (cs.setIfInBounds k v) t) := heap_setCell_same W B k cs t v h
theorem blk_other {W : World} {B g : Nat} {o : Obj} (h : W.heap[g]? = some o) (hne : g ≠ B) (k : Nat) (v : Value) : (W.setCell ⟨B, k, none⟩ v).heap[g]? = some o := (Below.heap_setCell W ⟨B, k, none⟩ v g hne).trans h

theorem below_at {B b k : Nat} {a w : World} {v : Value} (h : Below B a w) (hb : B ≤ b) : Below B a (w.setCell ⟨b, k, none⟩ v) := h.setCell hb v
theorem blk_alloc {W : World} {g : Nat} {o : Obj} (h : W.heap[g]? = some o) (o2 : Obj) : (W.alloc o2).heap[g]? = some o := (Below.heap_alloc W o2 g (blk_lt h)).trans h
end Go.Proofs.YtokjhfgbnpdfnagDoor
end

section
namespace Go.Proofs.YtokjhfgbnpdfnagDoor
open Go.ChangeShapes Go.WideShapes Go.ChangeAt Go.RowKit
set_option linter.unusedVariables false

/-- a packet that lies in a block -/
def PkAt (g : Nat) (p : Pk) (W : World) : Prop := W.cell? ⟨g, 0, none⟩ = some (.int .i64 p.src) ∧ W.cell? ⟨g, 1, none⟩ = some (.int .i64 p.dst) ∧ W.cell? ⟨g, 2, none⟩ = some (.int .i64 p.proto) ∧ W.cell? ⟨g, 3, none⟩ = some (.int .i64 p.a) ∧ W.cell? ⟨g, 4, none⟩ = some (.int .i64 p.b) ∧
  W.cell? ⟨g, 5, none⟩ = some (.int .i64 p.kind) ∧ W.cell? ⟨g, 6, none⟩ = some (.int .i64 p.flags) ∧ W.cell? ⟨g, 7, none⟩ = some (.int .i64 p.seq) ∧ W.cell? ⟨g, 8, none⟩ = some (.int .i64 p.ack) ∧ W.cell? ⟨g, 9, none⟩ = some (.string p.body)
theorem PkAt.lt {g : Nat} {p : Pk} {W : World} (h : PkAt g p W) : g < W.heap.size := World.block_lt_of_cell? W ⟨g, 0, none⟩ h.1
theorem PkAt.later {g : Nat} {p : Pk} {W W' : World} (h : PkAt g p W) (hb : Below W.heap.size W W') : PkAt g p W' := by
  have hl := h.lt
  obtain ⟨h0, h1, h2, h3, h4, h5, h6, h7, h8, h9⟩ := h
  have k : ∀ o, W'.cell? ⟨g, o, none⟩ = W.cell? ⟨g, o, none⟩ := fun o => hb.cell (p := ⟨g, o, none⟩) hl
  exact ⟨(k 0).trans h0, (k 1).trans h1, (k 2).trans h2, (k 3).trans h3, (k 4).trans h4, (k 5).trans h5, (k 6).trans h6, (k 7).trans h7, (k 8).trans h8, (k 9).trans h9⟩
theorem PkAt.new (p : Pk) (W : World) : PkAt W.heap.size p (W.alloc (.cells #[.int .i64 p.src, .int .i64 p.dst, .int .i64 p.proto, .int .i64 p.a, .int .i64 p.b, .int .i64 p.kind, .int .i64 p.flags, .int .i64 p.seq, .int .i64 p.ack, .string p.body] 30)) := by
  simp [PkAt]

end Go.Proofs.YtokjhfgbnpdfnagDoor
end

section
namespace Go.Proofs.YtokjhfgbnpdfnagDoor
open Go.ChangeShapes Go.WideShapes Go.ChangeAt Go.RowKit
set_option linter.unusedVariables false

theorem BytesAt.conv {B : Nat} {l : List UInt8} {W : World} (cap : Nat) (h : BytesAt B l W) : (convert 72 9 (.slice (some ⟨B, 0, none⟩) l.length cap)).run Tryd.prog W = .ok (.string ⟨l.toArray⟩) W :=
  run_convert_bytes_back (P := Tryd.prog) W 72 9 5 ⟨B, 0, none⟩ cap l Tryd.underlying72 Tryd.underlying5 Tryd.underlying9 (fun j hj => by rw [Addr.add_lit, Nat.zero_add]; exact h.2 j hj)
/-- numbers as bytes -/
def rowL (xs : List Int) : List UInt8 := xs.map fun x => UInt8.ofNat x.toNat
def rowT (xs : List Int) : ByteArray := ⟨(rowL xs).toArray⟩
theorem rowT_size (xs : List Int) : (rowT xs).size = xs.length := by show (rowL xs).toArray.size = _; simp [rowL]
theorem row_at {W : World} (xs : List Int) (h : ∀ x ∈ xs, 0 ≤ x ∧ x ≤ 255) : BytesAt W.heap.size (rowL xs) (W.alloc (.cells (xs.map fun x => Value.int .u8 x).toArray 5)) := by
  refine ⟨by simp, fun j hj => ?_⟩
  have hj' : j < xs.length := by simpa [rowL] using hj
  have hx := h xs[j] (List.getElem_mem hj')
  have e : (((rowL xs)[j]).toNat : Int) = xs[j] := by simp [rowL]; omega
  rw [e]
  simp [hj']
end Go.Proofs.YtokjhfgbnpdfnagDoor
end
