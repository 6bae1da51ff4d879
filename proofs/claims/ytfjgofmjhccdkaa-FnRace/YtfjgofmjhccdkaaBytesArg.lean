/- Proved here: bytes that came in as an argument can be drawn from (a bridge; no program of its own). -/
import Derived.Test.YtfjgofmjhccdkaaAll21
import Derived.ChangeOld
namespace Go.Proofs.Ytfjgofmjhccdkaa
open Go.RowKit

/-- what a walk is told of bytes that came in: nil; or a row of 'cap' numbers zs, the first 'len' its elements -/
def IsRow (k : IntKind) (w : World) (a : Option Addr) (len cap : Nat) (zs : List Int) : Prop :=
  (a = none ∧ len = 0 ∧ cap = 0 ∧ zs = []) ∨
  ∃ x, a = some x ∧ len ≤ cap ∧ cap ≤ maxLen ∧ zs.length = cap ∧ (∀ i, i < zs.length → w.cell? (x.add i) = some (.int k (zs.getD i 0))) ∧ ∀ n ∈ zs, (Lit.int k n).wf = true

theorem rowAt_of {w : World} {a : Option Addr} {len cap : Nat} {zs : List Int} (h : IsRow .u8 w a len cap zs) : RowAt w.heap.size a len w := by
  intro j hj
  rcases h with ⟨rfl, rfl, rfl, rfl⟩ | ⟨x, rfl, hl, hm, hz, hcell, hwz⟩
  · omega
  · have hc0 := hcell j (by omega)
    have hspot : x.spot = none := by simpa [Addr.add] using World.cell?_spot (hcell 0 (by omega))
    obtain ⟨b, o, sp⟩ := x
    simp only at hspot
    subst hspot
    have hmem : zs.getD j 0 ∈ zs := by
      rw [List.getD_eq_getElem?_getD, List.getElem?_eq_getElem (by omega)]
      exact List.getElem_mem _
    have hb := bounds_u8 (hwz _ hmem)
    have hc : w.cell? ⟨b, o + j, none⟩ = some (.int .u8 (zs.getD j 0)) := by rw [Addr.add_lit] at hc0; exact hc0
    exact ⟨b, o, rfl, World.block_lt_of_cell? w ⟨b, o + j, none⟩ hc, zs.getD j 0, hb.1, by omega, hc⟩
theorem isRow_len {w : World} {a : Option Addr} {len cap : Nat} {zs : List Int} (h : IsRow .u8 w a len cap zs) : len ≤ maxLen := by
  rcases h with ⟨rfl, rfl, rfl, rfl⟩ | ⟨x, rfl, hl, hm, _⟩
  · exact Nat.zero_le _
  · omega
theorem RowAt.mono {B B' : Nat} {a : Option Addr} {len : Nat} {w : World} (h : RowAt B a len w) (hB : B ≤ B') : RowAt B' a len w := by
  intro j hj
  obtain ⟨b, o, e, hlt, r⟩ := h j hj
  exact ⟨b, o, e, by omega, r⟩
/-- .. and later on too -/
theorem RowAt.later {a : Option Addr} {len : Nat} {w w' : World} (h : RowAt w.heap.size a len w) (hb : Below w.heap.size w w') : RowAt w'.heap.size a len w' :=
  (h.below fun k hk => hb.block k hk).mono hb.size
end Go.Proofs.Ytfjgofmjhccdkaa
