/- Proved here: nothing of a program: rows of slots of one's own. · Proved here: nothing of a program: a slab with other holders of a slot. · Proved here: plain facts and words: the answers of SlabGet and SlabPut, and whether a slot is linked. -/
import Derived.Test.YtjhkaideckgffaaSlabSpec2
import Derived.Deep.OwnRows
import Derived.Maps.AppendAt
import Derived.Test.YtjhkaideckgffaaAll23
section
namespace Go.Proofs.Ytjhkaideckgffaa
open Go.ChangeShapes Go.WideShapes Go.ChangeAt Go.RowKit
set_option linter.unusedVariables false
set_option linter.unusedSimpArgs false
set_option maxRecDepth 100000

theorem flat_app : ∀ a b : List Slt, flat (a ++ b) = flat a ++ flat b
  | [], b => rfl
  | x :: a, b => by simp [flat, flat_app a b]
theorem infoSlot : (Try.prog.info? 71).map (fun i => (i.zero, i.size, i.bytes)) = some (some (.agg #[.int .i64 0, .int .i64 0, .int .i64 0, .int .i64 0]), 4, 32) := by kernel_rfl
theorem cell_four_new (w : World) (a b c d : Value) (t : TypeId) : ∀ j u, [a, b, c, d][j]? = some u → (w.alloc (.cells #[a, b, c, d] t)).cell? ((⟨w.heap.size, 0, none⟩ : Addr).add j) = some u := by
  intro j u hj
  rw [Addr.add_lit, Nat.zero_add]
  have := blk_cell (heap_newG w (.cells #[a, b, c, d] t)) j
  rw [this]
  simpa using hj
/-- a row of slots of one's own -/
theorem own_slots {W : World} {B lo : Nat} {t : TypeId} {a : Option Addr} {n cap : Nat} {zs : List Int} (h : W.ownsRow B t 4 (.slice a n cap) n (zs.map (.int .i64))) (hB : lo ≤ B) : OwnR lo W.heap.size a zs W := by
  obtain ⟨hl, h⟩ := h
  simp at hl
  rcases h with ⟨e, rfl⟩ | ⟨g, cap', cur, e, hg, hh, hn, _, hs, ht⟩
  · left; exact List.length_eq_zero_iff.1 (by omega)
  · injection e with e _ _
    subst e
    refine .inr ⟨g, 0, rfl, by omega, blk_lt hh, cur, t, hh, fun j hj => ?_⟩
    rw [Nat.zero_add]
    have h1 : (zs.map (Value.int .i64))[j]? = some (.int .i64 (zs.getD j 0)) := by simp [hj]
    rw [← ht, List.getElem?_take, if_pos (by omega)] at h1
    simpa using h1
theorem own_form4 {W : World} {B : Nat} {t : TypeId} {v : Value} {n : Nat} {xs : List Value} (h : W.ownsRow B t 4 v n xs) : ∃ a cap, v = .slice a n cap := by
  rcases h.2 with ⟨rfl, rfl⟩ | ⟨g, cap, cur, rfl, _⟩
  · exact ⟨none, 0, rfl⟩
  · exact ⟨_, cap, rfl⟩
theorem own_set {W : World} {B : Nat} {t : TypeId} {z : Nat} {v : Value} {n : Nat} {xs : List Value} (h : W.ownsRow B t z v n xs) (g o : Nat) (x : Value) (hg : g < B) : (W.setCell ⟨g, o, none⟩ x).ownsRow B t z v n xs := by
  refine ⟨h.1, ?_⟩
  rcases h.2 with h | ⟨q, cap, cur, e, hq, hh, r⟩
  · exact .inl h
  · exact .inr ⟨q, cap, cur, e, hq, (Below.heap_setCell W ⟨g, o, none⟩ x q (by simp; omega)).trans hh, r⟩
theorem own_keep {W W' : World} {B : Nat} {t : TypeId} {z : Nat} {v : Value} {n : Nat} {xs : List Value} {r : Option Nat} (h : W.ownsRow B t z v n xs) (hg : W.grownBy W' r) (hr : ∀ q, v.ownBlock = some q → r ≠ some q) : W'.ownsRow B t z v n xs := by
  refine ⟨h.1, ?_⟩
  rcases h.2 with h | ⟨q, cap, cur, e, hq, hh, k⟩
  · exact .inl h
  · refine .inr ⟨q, cap, cur, e, hq, (hg.block q (blk_lt hh) (fun e2 => hr q (by rw [e]; rfl) e2.symm)).trans hh, k⟩
/-- a slab handed back, with rows of its own -/
def SlabAns (s : Slb) (w : World) (e : Ending) (w' : World) : Prop := ∃ aS cS aH cH, e = .returned (.agg #[.slice aS s.slots.length cS, .slice aH s.heads.length cH]) ∧ SlabO w.heap.size w'.heap.size aS aH s w' ∧ Below w.heap.size w w'
end Go.Proofs.Ytjhkaideckgffaa
end

section
namespace Go.Proofs.Ytjhkaideckgffaa
open Go.ChangeShapes Go.WideShapes Go.ChangeAt Go.RowKit
set_option linter.unusedVariables false
set_option linter.unusedSimpArgs false
set_option maxRecDepth 100000

/-- the slab with other holders of a slot -/
def refS (s : Slb) (n r : Int) : Slb := ⟨s.slots.set n.toNat { slotN s n with refs := r }, s.heads⟩
theorem flat_refs : ∀ (ss : List Slt) (i : Nat) (r : Int), i < ss.length → (flat ss).set (4 * i + 2) r = flat (ss.set i { ss.getD i zeroSlt with refs := r })
  | [], i, r, h => by simp at h
  | x :: ss, 0, r, h => by simp [flat]
  | x :: ss, i + 1, r, h => by
    have := flat_refs ss i r (by simpa using h)
    simp only [flat, show 4 * (i + 1) + 2 = 4 * i + 2 + 4 by omega, List.set_cons_succ, List.getD_cons_succ]
    rw [this]
theorem RowB.other {b o g k : Nat} {zs : List Int} {W : World} {v : Value} (h : RowB b o zs W) (hne : b ≠ g) : RowB b o zs (W.setCell ⟨g, k, none⟩ v) := h.keep (Below.heap_setCell W ⟨g, k, none⟩ v b hne)
theorem refs_nat {s : Slb} (h : rightSl s = true) {i : Nat} (hi : i < s.slots.length) : 0 ≤ (s.slots.getD i zeroSlt).refs ∧ (s.slots.getD i zeroSlt).refs ≤ 1000000 := by
  unfold rightSl slotsB at h
  simp only [Bool.and_eq_true, List.all_eq_true] at h
  have := h.1.2.1 (s.slots.getD i zeroSlt) (by rw [List.getD_eq_getElem?_getD, List.getElem?_eq_getElem hi]; exact List.getElem_mem _)
  unfold okS timeB at this
  simp only [Bool.and_eq_true, decide_eq_true_eq] at this
  exact this.1.2
end Go.Proofs.Ytjhkaideckgffaa
end

section
namespace Go.Proofs.Ytjhkaideckgffaa
open Go.ChangeShapes Go.WideShapes Go.ChangeAt Go.RowKit
set_option linter.unusedVariables false
set_option linter.unusedSimpArgs false
set_option maxRecDepth 100000

/-- an answer that hands a slab back, with a place and a code -/
def OutAns (s : Slb) (at_ code : Int) (w : World) (e : Ending) (w' : World) : Prop :=
  ∃ aS cS aH cH, e = .returned (.agg #[.slice aS s.slots.length cS, .slice aH s.heads.length cH, .int .i64 at_, .int .i64 code]) ∧ SlabO w.heap.size w'.heap.size aS aH s w' ∧ Below w.heap.size w w'
theorem ill_out {c : Int} {w w' : World} {e : Ending} (h : e = .returned (.agg #[.slice none 0 0, .slice none 0 0, .int .i64 0, .int .i64 c]) ∧ Below w.heap.size w w') : OutAns ⟨[], []⟩ 0 c w e w' :=
  ⟨none, 0, none, 0, h.1, ⟨.inl rfl, .inl rfl, fun _ _ _ _ e => by cases e⟩, h.2⟩
/-- a right slab and one of its slots -/
def atB (s : Slb) (n : Int) : Bool := rightSl s && (decide (0 ≤ n) && decide (n ≤ (s.slots.length : Int) - 1))
/-- what l06Begin answers -/
def beginAns (s : Slb) (n : Int) : Int := if atB s n = true then (if (slotN s n).refs = 0 then 6 else 0) else 1
theorem begin_at {s : Slb} {n : Int} (h : beginAns s n = 0) : rightSl s = true ∧ 0 ≤ n ∧ n < s.slots.length := by
  unfold beginAns at h
  cases hb : atB s n
  · rw [hb] at h; simp at h
  · unfold atB at hb; simp at hb; exact ⟨hb.1, hb.2.1, by omega⟩
/-- the code of SlabGet -/
def getC (s : Slb) (n : Int) : Int := if beginAns s n = 0 then (if 1000000 ≤ (slotN s n).refs then 9 else 0) else beginAns s n
/-- what SlabGet answers -/
def getS (s : Slb) (n : Int) : Slb := if getC s n = 0 then refS s n ((slotN s n).refs + 1) else ⟨[], []⟩
def getA (s : Slb) (n : Int) : Int := if getC s n = 0 then n else 0
/-- is the slot linked? -/
def linkedB (s : Slb) (n : Int) : Bool := findSl s (slotN s n).key == n
theorem key_nat {s : Slb} (h : rightSl s = true) {i : Nat} (hi : i < s.slots.length) : 0 ≤ (s.slots.getD i zeroSlt).key := by
  unfold rightSl slotsB at h
  simp only [Bool.and_eq_true, List.all_eq_true] at h
  have := h.1.2.1 (s.slots.getD i zeroSlt) (by rw [List.getD_eq_getElem?_getD, List.getElem?_eq_getElem hi]; exact List.getElem_mem _)
  unfold okS keyB at this
  simp only [Bool.and_eq_true, decide_eq_true_eq] at this
  exact this.1.1.1.1
/-- the code of SlabPut -/
def putC (s : Slb) (n : Int) : Int := if beginAns s n = 0 then (if (slotN s n).refs = 1 ∧ linkedB s n = true then 10 else 0) else beginAns s n
/-- what SlabPut answers -/
def putS (s : Slb) (n : Int) : Slb := if putC s n = 0 then refS s n ((slotN s n).refs - 1) else ⟨[], []⟩
def putA (s : Slb) (n : Int) : Int := if putC s n = 0 then n else 0
end Go.Proofs.Ytjhkaideckgffaa
end
