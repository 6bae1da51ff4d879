/- Proved here: a literal slice of bytes, turned into a string, is these bytes (a bridge; no program of its own). -/
import Derived.Test.YtbhemimhmkgfiaaDoorGrow
namespace Go.Proofs.YtbhemimhmkgfiaaDoor
open Go.ChangeShapes Go.WideShapes Go.ChangeAt Go.RowKit
set_option linter.unusedVariables false

theorem BytesAt.conv {B : Nat} {l : List UInt8} {W : World} (cap : Nat) (h : BytesAt B l W) : (convert 73 9 (.slice (some ⟨B, 0, none⟩) l.length cap)).run Tryd.prog W = .ok (.string ⟨l.toArray⟩) W :=
  run_convert_bytes_back (P := Tryd.prog) W 73 9 5 ⟨B, 0, none⟩ cap l Tryd.underlying73 Tryd.underlying5 Tryd.underlying9 (fun j hj => by rw [Addr.add_lit, Nat.zero_add]; exact h.2 j hj)
/-- numbers as bytes -/
def rowL (xs : List Int) : List UInt8 := xs.map fun x => UInt8.ofNat x.toNat
def rowT (xs : List Int) : ByteArray := ⟨(rowL xs).toArray⟩
theorem rowT_size (xs : List Int) : (rowT xs).size = xs.length := by show (rowL xs).toArray.size = _; simp [rowL]
theorem row_at {W : World} (xs : List Int) (h : ∀ x ∈ xs, 0 ≤ x ∧ x ≤ 255) : BytesAt W.heap.size (rowL xs) (W.alloc (.cells (xs.map fun x => Value.int .u8 x).toArray 5)) := by
  refine ⟨by simp, fun j hj => ?_⟩
  have hj' : j < xs.length := by simpa [rowL] using hj
  have hx := h xs[j] (List.getElem_mem hj')
  have e : (((rowL xs)[j]).toNat : Int) = xs[j] := by simp [rowL]; omega
  rw [e]
  simp [hj']
end Go.Proofs.YtbhemimhmkgfiaaDoor
