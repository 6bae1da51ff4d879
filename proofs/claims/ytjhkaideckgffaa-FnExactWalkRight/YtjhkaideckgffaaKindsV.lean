/- Proved here: nothing of a program: kinds of values that are walkers' answers, how they stand to a block that is made, told in a region. -/
import Derived.Test.YtjhkaideckgffaaKinds
import Derived.Test.YtjhkaideckgffaaWalkDefs
import Derived.Test.YtjhkaideckgffaaSlabRows
namespace Go.Proofs.Ytjhkaideckgffaa
open Go.ChangeShapes Go.WideShapes Go.ChangeAt Go.RowKit
set_option linter.unusedVariables false
set_option linter.unusedSimpArgs false
set_option maxRecDepth 100000

/-- a slab -/
def slabR (u : Slb) : Kp := fun v W => ∃ (aS : Option Addr) (cS : Nat) (aH : Option Addr) (cH : Nat), v = .agg #[.slice aS u.slots.length cS, .slice aH u.heads.length cH] ∧ SlabZ aS aH u W
theorem slabR_last (u : Slb) : LastsB (slabR u) := fun v W W' h hb => by
  obtain ⟨aS, cS, aH, cH, e, hz⟩ := h
  exact ⟨aS, cS, aH, cH, e, hz.later hb⟩
/-- an answer of its own memory -/
def woK (lo0 : Nat) (t : Slb) (k : Wlk) (c : Int) : Kp := fun v W => ∃ (aS : Option Addr) (cS : Nat) (aH : Option Addr) (cH lo hi : Nat), v = .agg #[.slice aS t.slots.length cS, .slice aH t.heads.length cH, .int .i64 k.key, .int .i64 k.cur, .int .i64 k.stage, .int .i64 k.state, .int .i64 k.slot, .int .i64 k.gen, .int .i64 k.steps, .int .i64 c] ∧ SlabO lo hi aS aH t W ∧ lo0 ≤ lo ∧ lo ≤ hi ∧ hi ≤ W.heap.size
theorem woK_last (lo0 : Nat) (t : Slb) (k : Wlk) (c : Int) : LastsB (woK lo0 t k c) := fun v W W' h hb => by
  obtain ⟨aS, cS, aH, cH, lo, hi, e, hz, h1, h2, h3⟩ := h
  exact ⟨aS, cS, aH, cH, lo, hi, e, hz.later hb, h1, h2, Nat.le_trans h3 hb.size⟩
/-- a block that was made -/
def madeK (lo0 : Nat) (cs : Array Value) (ty : TypeId) : Kp := fun v W => ∃ B, v = .pointer (some ⟨B, 0, none⟩) ∧ lo0 ≤ B ∧ W.heap[B]? = some (.cells cs ty)
theorem madeK_last (lo0 : Nat) (cs : Array Value) (ty : TypeId) : LastsB (madeK lo0 cs ty) := fun v W W' h hb => by
  obtain ⟨B, e, h1, h2⟩ := h
  exact ⟨B, e, h1, blk_later h2 hb⟩
/-- how both stand to each other -/
def woR (lo0 : Nat) (t : Slb) (k : Wlk) (c : Int) : Value → Value → World → Prop := fun vc vx W => ∃ (aS : Option Addr) (cS : Nat) (aH : Option Addr) (cH lo hi B : Nat), vc = .agg #[.slice aS t.slots.length cS, .slice aH t.heads.length cH, .int .i64 k.key, .int .i64 k.cur, .int .i64 k.stage, .int .i64 k.state, .int .i64 k.slot, .int .i64 k.gen, .int .i64 k.steps, .int .i64 c] ∧ vx = .pointer (some ⟨B, 0, none⟩) ∧ SlabO lo hi aS aH t W ∧ lo0 ≤ lo ∧ lo ≤ hi ∧ hi ≤ W.heap.size ∧ lo0 ≤ B ∧ (B < lo ∨ hi ≤ B) ∧ B < W.heap.size
theorem woR_last (lo0 : Nat) (t : Slb) (k : Wlk) (c : Int) : ∀ a b W W', woR lo0 t k c a b W → Below W.heap.size W W' → woR lo0 t k c a b W' := fun a b W W' h hb => by
  obtain ⟨aS, cS, aH, cH, lo, hi, B, e1, e2, hz, h1, h2, h3, h4, h5, h6⟩ := h
  exact ⟨aS, cS, aH, cH, lo, hi, B, e1, e2, hz.later hb, h1, h2, Nat.le_trans h3 hb.size, h4, h5, Nat.lt_of_lt_of_le h6 hb.size⟩
theorem woR_call {lo0 : Nat} {t : Slb} {k : Wlk} {c : Int} {cs : Array Value} {ty : TypeId} {W W' : World} {vx : Value} {aS aH : Option Addr} {cS cH : Nat} (hx : madeK lo0 cs ty vx W) (hO : SlabO W.heap.size W'.heap.size aS aH t W') (h0 : lo0 ≤ W.heap.size) (hb : Below W.heap.size W W') :
    woR lo0 t k c (.agg #[.slice aS t.slots.length cS, .slice aH t.heads.length cH, .int .i64 k.key, .int .i64 k.cur, .int .i64 k.stage, .int .i64 k.state, .int .i64 k.slot, .int .i64 k.gen, .int .i64 k.steps, .int .i64 c]) vx W' := by
  obtain ⟨B, e, h1, h2⟩ := hx
  exact ⟨aS, cS, aH, cH, W.heap.size, W'.heap.size, B, rfl, e, hO, h0, hb.size, Nat.le_refl _, h1, .inl (blk_lt h2), Nat.lt_of_lt_of_le (blk_lt h2) hb.size⟩
theorem woR_made {lo0 : Nat} {t : Slb} {k : Wlk} {c : Int} {W : World} {vc : Value} (o : Obj) (hc : woK lo0 t k c vc W) (h0 : lo0 ≤ W.heap.size) : woR lo0 t k c vc (.pointer (some ⟨W.heap.size, 0, none⟩)) (W.alloc o) := by
  obtain ⟨aS, cS, aH, cH, lo, hi, e, hz, h1, h2, h3⟩ := hc
  exact ⟨aS, cS, aH, cH, lo, hi, W.heap.size, e, rfl, hz.later ((Below.refl _ _).alloc (Nat.le_refl _) _), h1, h2, by simp; omega, h0, .inr h3, by simp⟩
end Go.Proofs.Ytjhkaideckgffaa
