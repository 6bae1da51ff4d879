/- Proved here: small facts on a packet that lies in a block (no program of its own). -/
import Derived.Test.YtbhemimhmkgfiaaDoorAll3
import Derived.Test.YtbhemimhmkgfiaaDoorAll5
namespace Go.Proofs.YtbhemimhmkgfiaaDoor
open Go.ChangeShapes Go.WideShapes Go.ChangeAt Go.RowKit
set_option linter.unusedVariables false

/-- a packet that lies in a block -/
def PkAt (g : Nat) (p : Pk) (W : World) : Prop := W.cell? ⟨g, 0, none⟩ = some (.int .i64 p.src) ∧ W.cell? ⟨g, 1, none⟩ = some (.int .i64 p.dst) ∧ W.cell? ⟨g, 2, none⟩ = some (.int .i64 p.proto) ∧ W.cell? ⟨g, 3, none⟩ = some (.int .i64 p.a) ∧ W.cell? ⟨g, 4, none⟩ = some (.int .i64 p.b) ∧
  W.cell? ⟨g, 5, none⟩ = some (.int .i64 p.kind) ∧ W.cell? ⟨g, 6, none⟩ = some (.int .i64 p.flags) ∧ W.cell? ⟨g, 7, none⟩ = some (.int .i64 p.seq) ∧ W.cell? ⟨g, 8, none⟩ = some (.int .i64 p.ack) ∧ W.cell? ⟨g, 9, none⟩ = some (.string p.body)
theorem PkAt.lt {g : Nat} {p : Pk} {W : World} (h : PkAt g p W) : g < W.heap.size := World.block_lt_of_cell? W ⟨g, 0, none⟩ h.1
theorem PkAt.later {g : Nat} {p : Pk} {W W' : World} (h : PkAt g p W) (hb : Below W.heap.size W W') : PkAt g p W' := by
  have hl := h.lt
  obtain ⟨h0, h1, h2, h3, h4, h5, h6, h7, h8, h9⟩ := h
  have k : ∀ o, W'.cell? ⟨g, o, none⟩ = W.cell? ⟨g, o, none⟩ := fun o => hb.cell (p := ⟨g, o, none⟩) hl
  exact ⟨(k 0).trans h0, (k 1).trans h1, (k 2).trans h2, (k 3).trans h3, (k 4).trans h4, (k 5).trans h5, (k 6).trans h6, (k 7).trans h7, (k 8).trans h8, (k 9).trans h9⟩
theorem PkAt.new (p : Pk) (W : World) : PkAt W.heap.size p (W.alloc (.cells #[.int .i64 p.src, .int .i64 p.dst, .int .i64 p.proto, .int .i64 p.a, .int .i64 p.b, .int .i64 p.kind, .int .i64 p.flags, .int .i64 p.seq, .int .i64 p.ack, .string p.body] 29)) := by
  simp [PkAt]

end Go.Proofs.YtbhemimhmkgfiaaDoor
