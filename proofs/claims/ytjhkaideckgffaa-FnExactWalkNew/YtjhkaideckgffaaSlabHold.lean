/- Proved here: nothing of a program: slabs in memory, read and of one's own. -/
import Derived.Test.YtjhkaideckgffaaSlabMath
import Derived.BigRegion
import Derived.BigQuiet
import Derived.Deep.QuietTactic
import Derived.Deep.OwnRows
import Derived.Deep.Cut
import Derived.Deep.DeepCutAuto
import Derived.Deep.CutBlock
namespace Go.Proofs.Ytjhkaideckgffaa
open Go.ChangeShapes Go.WideShapes Go.ChangeAt Go.RowKit
set_option linter.unusedVariables false
set_option linter.unusedSimpArgs false
set_option maxRecDepth 100000

theorem below_drewN {B : Nat} {w w' : World} (h : Below B w w') (n : Nat) : Below B w (w'.drewN n) := ⟨h.os, h.tape, h.output, h.size, h.block⟩
theorem make_ints (n : Nat) (hn : n ≤ 1048576) (W : World) : (Instr.makeSlice 23 (.int .i64 (n : Int)) (.int .i64 (n : Int))).run Try.prog W = .ok (.slice (some ⟨W.heap.size, 0, none⟩) n n) (W.alloc (.cells (intCells (List.replicate n 0)) 2)) := by
  rw [← made_ints]
  exact run_make_row' (P := Try.prog) 23 2 (.int .i64 0) 8 Try.underlying23 (by kernel_rfl) rfl .i64 .i64 n (by omega) (by omega) W
theorem make_slots (n : Nat) (hn : n ≤ 1048576) (W : World) : (Instr.makeSlice 30 (.int .i64 (n : Int)) (.int .i64 (n : Int))).run Try.prog W = .ok (.slice (some ⟨W.heap.size, 0, none⟩) n n) (W.alloc (.cells (intCells (List.replicate (4 * n) 0)) 71)) := by
  obtain ⟨i, hi, hz⟩ := Option.map_eq_some_iff.1 (show (Try.prog.info? 71).map (fun i => (i.zero, i.size, i.bytes)) = some (some (.agg #[.int .i64 0, .int .i64 0, .int .i64 0, .int .i64 0]), 4, 32) by kernel_rfl)
  simp only [Prod.mk.injEq] at hz
  obtain ⟨h1, h2, h3⟩ := hz
  have h := run_makeSlice (P := Try.prog) W 30 71 i _ Try.underlying30 hi h1 .i64 .i64 (n : Int) (n : Int) (by omega) (by omega) (by rw [h2]; omega) (by rw [h3]; omega) (by omega)
  rw [h2] at h
  have e : (Value.agg #[.int .i64 0, .int .i64 0, .int .i64 0, .int .i64 0]).cells = #[.int .i64 0, .int .i64 0, .int .i64 0, .int .i64 0] := rfl
  rw [e, made_slots, Int.toNat_natCast, Nat.mul_comm n 4] at h
  exact h
theorem rowB_cells {b o : Nat} {zs : List Int} {W : World} (h : RowB b o zs W) (j : Nat) (hj : j < zs.length) : (∃ z, W.cell? ⟨b, o + j, none⟩ = some (.int .i64 z)) ∧ W.frozen? ⟨b, o + j, none⟩ = false := by
  obtain ⟨cs, t, h1, h2⟩ := h
  exact ⟨⟨_, (blk_cell h1 _).trans (h2 j hj)⟩, blk_free h1 _⟩
/-- of all blocks that are there, those from lo to below hi alone may have turned -/
structure Mid (lo hi : Nat) (w w' : World) : Prop where
  os : w'.os = w.os
  tape : w'.tape = w.tape
  output : w'.output = w.output
  size : w.heap.size ≤ w'.heap.size
  block : ∀ k, k < w.heap.size → (k < lo ∨ hi ≤ k) → w'.heap[k]? = w.heap[k]?
theorem Mid.refl (lo hi : Nat) (w : World) : Mid lo hi w w := ⟨rfl, rfl, rfl, Nat.le_refl _, fun _ _ _ => rfl⟩
theorem Mid.trans {lo hi : Nat} {a b c : World} (h : Mid lo hi a b) (k : Mid lo hi b c) : Mid lo hi a c :=
  ⟨k.os.trans h.os, k.tape.trans h.tape, k.output.trans h.output, Nat.le_trans h.size k.size, fun i hi ho => (k.block i (Nat.lt_of_lt_of_le hi h.size) ho).trans (h.block i hi ho)⟩
theorem Tch.mid {b lo hi : Nat} {w w' : World} (h : Tch b w w') (h1 : lo ≤ b) (h2 : b < hi) : Mid lo hi w w' := ⟨h.os, h.tape, h.output, h.size, fun k hk ho => h.block k hk (by omega)⟩
theorem Below.mid {lo hi : Nat} {w w' : World} (h : Below w.heap.size w w') : Mid lo hi w w' := ⟨h.os, h.tape, h.output, h.size, fun k hk _ => h.block k hk⟩
theorem Mid.below {lo hi B : Nat} {w w' : World} (h : Mid lo hi w w') (h1 : B ≤ lo) (h2 : B ≤ w.heap.size) : Below B w w' := ⟨h.os, h.tape, h.output, h.size, fun k hk => h.block k (by omega) (.inl (by omega))⟩
/-- a row of one's own, in a block from lo to below hi (or empty) -/
def OwnR (lo hi : Nat) (a : Option Addr) (zs : List Int) (W : World) : Prop := zs = [] ∨ ∃ b o, a = some ⟨b, o, none⟩ ∧ lo ≤ b ∧ b < hi ∧ RowB b o zs W
theorem OwnR.read {lo hi : Nat} {a : Option Addr} {zs : List Int} {W : World} (h : OwnR lo hi a zs W) : RowZ a zs W := by
  rcases h with rfl | ⟨b, o, rfl, _, _, hr⟩
  · intro j hj; simp at hj
  · exact hr.read
theorem OwnR.later {lo hi : Nat} {a : Option Addr} {zs : List Int} {W W' : World} (h : OwnR lo hi a zs W) (hb : Below W.heap.size W W') : OwnR lo hi a zs W' := by
  rcases h with rfl | ⟨b, o, e, h1, h2, hr⟩
  · exact .inl rfl
  · exact .inr ⟨b, o, e, h1, h2, hr.later hb⟩
/-- rows elsewhere stay -/
theorem OwnR.apart {lo hi lo' hi' : Nat} {a : Option Addr} {zs : List Int} {W W' : World} (h : OwnR lo hi a zs W) (hm : Mid lo' hi' W W') (hd : hi ≤ lo' ∨ hi' ≤ lo) : OwnR lo hi a zs W' := by
  rcases h with rfl | ⟨b, o, e, h1, h2, hr⟩
  · exact .inl rfl
  · exact .inr ⟨b, o, e, h1, h2, hr.keep (hm.block b hr.lt (by omega))⟩
theorem own_new {lo hi b : Nat} {zs : List Int} {W : World} {t : TypeId} (h : W.heap[b]? = some (.cells (intCells zs) t)) (h1 : lo ≤ b) (h2 : b < hi) : OwnR lo hi (some ⟨b, 0, none⟩) zs W := .inr ⟨b, 0, rfl, h1, h2, rowB_new h⟩
/-- a slab's rows can be read -/
structure SlabZ (aS aH : Option Addr) (s : Slb) (W : World) : Prop where
  slots : RowZ aS (flat s.slots) W
  heads : RowZ aH s.heads W
theorem SlabZ.later {aS aH : Option Addr} {s : Slb} {W W' : World} (h : SlabZ aS aH s W) (hb : Below W.heap.size W W') : SlabZ aS aH s W' := ⟨h.slots.later hb, h.heads.later hb⟩
/-- a slab's rows are its own, in two blocks -/
structure SlabO (lo hi : Nat) (aS aH : Option Addr) (s : Slb) (W : World) : Prop where
  slots : OwnR lo hi aS (flat s.slots) W
  heads : OwnR lo hi aH s.heads W
  two : ∀ b o c p, aS = some ⟨b, o, none⟩ → aH = some ⟨c, p, none⟩ → s.slots ≠ [] → s.heads ≠ [] → b ≠ c
theorem SlabO.read {lo hi : Nat} {aS aH : Option Addr} {s : Slb} {W : World} (h : SlabO lo hi aS aH s W) : SlabZ aS aH s W := ⟨h.slots.read, h.heads.read⟩
theorem SlabO.later {lo hi : Nat} {aS aH : Option Addr} {s : Slb} {W W' : World} (h : SlabO lo hi aS aH s W) (hb : Below W.heap.size W W') : SlabO lo hi aS aH s W' := ⟨h.slots.later hb, h.heads.later hb, h.two⟩
theorem SlabO.apart {lo hi lo' hi' : Nat} {aS aH : Option Addr} {s : Slb} {W W' : World} (h : SlabO lo hi aS aH s W) (hm : Mid lo' hi' W W') (hd : hi ≤ lo' ∨ hi' ≤ lo) : SlabO lo hi aS aH s W' := ⟨h.slots.apart hm hd, h.heads.apart hm hd, h.two⟩

/-- numbers of int64 -/
def fitZ (z : Int) : Prop := -9223372036854775808 ≤ z ∧ z ≤ 9223372036854775807
def fitS (s : Slt) : Prop := fitZ s.key ∧ fitZ s.gen ∧ fitZ s.refs ∧ fitZ s.next
/-- a slab of numbers of int64 -/
structure SlabFit (s : Slb) : Prop where
  slots : ∀ x ∈ s.slots, fitS x
  heads : ∀ z ∈ s.heads, fitZ z
end Go.Proofs.Ytjhkaideckgffaa
