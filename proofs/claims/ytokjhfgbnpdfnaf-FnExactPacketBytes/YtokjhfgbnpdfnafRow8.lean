/- Proved here: a row of bytes that may be written, and what 'copy' of a string leaves of it (no program of its own). -/
import Derived.Test.YtokjhfgbnpdfnafBlk
import Derived.Test.YtokjhfgbnpdfnafJoin
import Derived.Deep.Upon
namespace Go.Proofs.Ytokjhfgbnpdfnaf
open Go.ChangeShapes Go.WideShapes Go.ChangeAt Go.RowKit
set_option linter.unusedVariables false

/-- a row of bytes that may be written -/
def Row8 (g : Nat) (l : List UInt8) (W : World) : Prop := g < W.heap.size ∧ ∀ j, (h : j < l.length) → W.cell? ⟨g, j, none⟩ = some (.int .u8 (l[j].toNat : Int)) ∧ W.frozen? ⟨g, j, none⟩ = false
theorem Row8.later {g : Nat} {l : List UInt8} {W W' : World} (h : Row8 g l W) (hb : Below W.heap.size W W') : Row8 g l W' := ⟨Nat.lt_of_lt_of_le h.1 hb.size, fun j hj => ⟨(hb.cell (p := ⟨g, j, none⟩) h.1).trans (h.2 j hj).1, (hb.frozen (p := ⟨g, j, none⟩) h.1).trans (h.2 j hj).2⟩⟩
theorem Row8.bytes {g : Nat} {l : List UInt8} {W : World} (h : Row8 g l W) : BytesAt g l W := ⟨h.1, fun j hj => (h.2 j hj).1⟩
/-- some bytes over others -/
def over (l : List UInt8) (o : Nat) (m : List UInt8) : List UInt8 := l.take o ++ m ++ l.drop (o + m.length)
theorem over_length {l : List UInt8} {o : Nat} {m : List UInt8} (h : o + m.length ≤ l.length) : (over l o m).length = l.length := by simp [over]; omega
theorem over_in {l : List UInt8} {o : Nat} {m : List UInt8} (h : o + m.length ≤ l.length) (j : Nat) (hj : j < m.length) : (over l o m)[o + j]'(by rw [over_length h]; omega) = m[j] := by
  simp only [over]
  rw [List.getElem_append_left (by simp; omega), List.getElem_append_right (by simp; omega)]
  have e : o + j - (l.take o).length = j := by simp; omega
  simp only [e]
theorem over_out {l : List UInt8} {o : Nat} {m : List UInt8} (h : o + m.length ≤ l.length) (j : Nat) (hj : j < l.length) (hd : j < o ∨ o + m.length ≤ j) : (over l o m)[j]'(by rw [over_length h]; exact hj) = l[j] := by
  simp only [over]
  rcases hd with hd | hd
  · rw [List.getElem_append_left (by simp; omega), List.getElem_append_left (by simp; omega)]
    simp
  · rw [List.getElem_append_right (by simp; omega)]
    simp only [List.getElem_drop]
    congr 1
    simp; omega
theorem getv_cast {l : List UInt8} {i j : Nat} (hi : i < l.length) (e : i = j) : l[i] = l[j]'(e ▸ hi) := by subst e; rfl

/-- 'copy(row[o:], s)' -/
theorem Row8.copy {g : Nat} {l : List UInt8} {W : World} (h : Row8 g l W) (ty : TypeId) (o dLen dCap : Nat) (s : ByteArray) (hle : s.size ≤ dLen) (hfit : o + s.size ≤ l.length) :
    ∃ W', (Builtin.copy_ #[37, 9] ty #[.slice (some ⟨g, o, none⟩) dLen dCap, .string s]).run Try.prog W = .ok (.int .i64 (s.size : Int)) W' ∧ Row8 g (over l o s.data.toList) W' ∧
      (∀ B a, B ≤ g → Below B a W → Below B a W') ∧ (∀ b, b < W.heap.size → b ≠ g → W'.heap[b]? = W.heap[b]?) := by
  have hsl : s.data.toList.length = s.size := by simp
  have hml : (s.data.toList.map fun x => Value.int .u8 (x.toNat : Int)).length = s.size := by rw [List.length_map, hsl]
  have hcell : ∀ j, j < s.size → W.cell? ⟨g, o + j, none⟩ = some (.int .u8 (l[o + j]!.toNat : Int)) := fun j hj => by
    rw [(h.2 (o + j) (by omega)).1, getElem!_pos l (o + j) (by omega)]
  have hr := run_copy_string (P := Try.prog) W 37 9 ty 5 g o dLen dCap s Try.underlying37 Try.sizeU8 hle
    (fun j hj => by rw [hcell j hj]; rfl) (fun j hj => (h.2 (o + j) (by omega)).2)
  refine ⟨_, hr, ⟨?_, fun j hj => ?_⟩, fun B a hB hb => below_setCells hB _ _ _ hb, fun b hb hne => World.heap_setCells_other W g o _ hb hne⟩
  · exact Nat.lt_of_lt_of_le h.1 (below_setCells (B := g) (Nat.le_refl g) _ _ _ (Below.refl g W)).size
  · rw [over_length (by rw [hsl]; exact hfit)] at hj
    refine ⟨?_, (World.frozen?_setCells g _ o W _).trans (h.2 j hj).2⟩
    by_cases hd : o ≤ j ∧ j < o + s.size
    · obtain ⟨k, rfl⟩ : ∃ k, j = o + k := ⟨j - o, by omega⟩
      have hk : k < s.size := by omega
      rw [World.cell?_setCells_in g _ o W (fun i hi => by rw [hcell i (by rw [← hml]; exact hi)]; rfl) k (by rw [hml]; exact hk)]
      rw [over_in (by rw [hsl]; exact hfit) k (by rw [hsl]; exact hk)]
      simp
    · rw [World.cell?_setCells_out g _ o W ⟨g, j, none⟩ (fun _ _ => by rw [hml]; show j < o ∨ o + s.size ≤ j; omega), (h.2 j hj).1]
      rw [over_out (by rw [hsl]; exact hfit) j hj (by rw [hsl]; omega)]
end Go.Proofs.Ytokjhfgbnpdfnaf
