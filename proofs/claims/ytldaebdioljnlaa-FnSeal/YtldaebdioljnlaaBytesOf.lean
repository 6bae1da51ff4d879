/- Proved here: '[]byte(s)' makes a new row of the bytes of s, none of them frozen; all old memory stays (no conditions). -/
import Derived.Test.YtldaebdioljnlaaOwn
namespace Go.Proofs.Ytldaebdioljnlaa
open Go.RowKit

theorem bytes_of (w : World) (s : ByteArray) : ∃ cap w4, (convert 9 22 (.string s)).run Try.prog w = .ok (.slice (some ⟨w.heap.size, 0, none⟩) s.size cap) w4 ∧ Below w.heap.size w w4 ∧ w.heap.size < w4.heap.size ∧
    (∀ j, (hj : j < s.size) → w4.cell? ⟨w.heap.size, j, none⟩ = some (.int .u8 (s[j].toNat : Int))) ∧ ∀ j, j < s.size → w4.frozen? ⟨w.heap.size, j, none⟩ = false := by
  have h := run_bytes_of_string (P := Try.prog) w 9 22 5 s Try.underlying9 Try.underlying22 Try.underlying5
  have hsz : s.size ≤ (bytesRow s (grownCap w s.size 0 5)).size := by simp [bytesRow]
  have hh : (w.drew.alloc (.cells (bytesRow s (grownCap w s.size 0 5)) 5 ((bytesRow s (grownCap w s.size 0 5)).size, (bytesRow s (grownCap w s.size 0 5)).size + 1))).heap[w.heap.size]? = some (.cells (bytesRow s (grownCap w s.size 0 5)) 5 ((bytesRow s (grownCap w s.size 0 5)).size, (bytesRow s (grownCap w s.size 0 5)).size + 1)) := heap_new w.drew _
  refine ⟨_, _, h, ((Below.refl _ _).drew).alloc (Nat.le_refl _) _, by simp, ?_, ?_⟩
  · intro j hj
    have hj' : j < s.data.size := hj
    simp only [World.cell?, hh, Option.isSome_none]
    simp [bytesRow, Array.getElem?_append]
    rw [if_pos hj, Array.getElem?_eq_getElem hj']
    rfl
  · intro j hj
    simp only [World.frozen?, hh]
    simp
    omega
end Go.Proofs.Ytldaebdioljnlaa
