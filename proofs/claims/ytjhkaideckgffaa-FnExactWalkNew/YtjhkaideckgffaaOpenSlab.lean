/- Proved here: a laws.Slab that came in as an argument is two rows that can be read (a bridge; no program of its own). -/
import Derived.Test.YtjhkaideckgffaaRows
import Derived.Test.YtjhkaideckgffaaLawsSlab
import Derived.WalkKit
import Derived.WalkSpells
import Derived.ProofKit
import Derived.OpenShut
import Derived.Handy
import Derived.Below
import Derived.ChangeArms
import Derived.Deep.Slices
namespace Go.Proofs.Ytjhkaideckgffaa
open Go.ChangeShapes Go.WideShapes Go.ChangeAt Go.RowKit
set_option linter.unusedVariables false
set_option maxRecDepth 100000

theorem fit_wf {z : Int} (h : (Lit.int .i64 z).wf = true) : fitZ z := bounds_i64 h
theorem four_of (l : List Value) (h : l.length = 4) : ∃ c0 c1 c2 c3 : Value, l = [c0, c1, c2, c3] := by
  match l, h with
  | [c0, c1, c2, c3], _ => exact ⟨c0, c1, c2, c3, rfl⟩
theorem slot_of {H : Type} {enc : TypeId × Value → H} {w : World} {base : Nat} {sp : Nat → Bool} {held : Bool} {fuel : Nat} {cs : List Value} {x : DataW H × List MemPlace}
    (h : DataW.trod enc Try.prog w base sp held fuel 74 cs = some x) :
    ∃ s : Slt, cs = [.int .i64 s.key, .int .i64 s.gen, .int .i64 s.refs, .int .i64 s.next] ∧ fitS s := by
  obtain ⟨xs, n, rfl, _, hl, hx, hall⟩ := DataW.trod_struct Try.underlying74 h
  have hc : Try.prog.cellsOf 74 = 4 := by kernel_rfl
  have hci : Try.prog.cellsOf 2 = 1 := by kernel_rfl
  rw [hc] at hl
  obtain ⟨c0, c1, c2, c3, rfl⟩ := four_of cs hl
  clear hl h
  have hX : ∀ i, i < 4 → ∃ x, xs[i]? = some x := fun i hi => ⟨xs[i]'(by rw [hx]; exact hi), List.getElem?_eq_getElem _⟩
  have t0 : DataW.trod enc Try.prog w base sp held n 2 [c0] = xs[0]? := by
    have g : DataW.trod enc Try.prog w base sp held n 2 (List.take (Try.prog.cellsOf 2) (List.drop 0 [c0, c1, c2, c3])) = xs[0]? := hall 0 _ rfl
    rw [hci] at g
    exact g
  obtain ⟨x0, e0⟩ := hX 0 (by omega)
  rw [e0] at t0
  obtain ⟨a0, q0, _, w0⟩ := DataW.trod_int Try.underlying2 t0
  obtain rfl : c0 = .int .i64 a0 := by simpa using q0
  have t1 : DataW.trod enc Try.prog w base sp held n 2 [c1] = xs[1]? := by
    have g : DataW.trod enc Try.prog w base sp held n 2 (List.take (Try.prog.cellsOf 2) (List.drop 1 [.int .i64 a0, c1, c2, c3])) = xs[1]? := hall 1 _ rfl
    rw [hci] at g
    exact g
  obtain ⟨x1, e1⟩ := hX 1 (by omega)
  rw [e1] at t1
  obtain ⟨a1, q1, _, w1⟩ := DataW.trod_int Try.underlying2 t1
  obtain rfl : c1 = .int .i64 a1 := by simpa using q1
  have t2 : DataW.trod enc Try.prog w base sp held n 2 [c2] = xs[2]? := by
    have g : DataW.trod enc Try.prog w base sp held n 2 (List.take (Try.prog.cellsOf 2) (List.drop 2 [.int .i64 a0, .int .i64 a1, c2, c3])) = xs[2]? := hall 2 _ rfl
    rw [hci] at g
    exact g
  obtain ⟨x2, e2⟩ := hX 2 (by omega)
  rw [e2] at t2
  obtain ⟨a2, q2, _, w2⟩ := DataW.trod_int Try.underlying2 t2
  obtain rfl : c2 = .int .i64 a2 := by simpa using q2
  have t3 : DataW.trod enc Try.prog w base sp held n 2 [c3] = xs[3]? := by
    have g : DataW.trod enc Try.prog w base sp held n 2 (List.take (Try.prog.cellsOf 2) (List.drop 3 [.int .i64 a0, .int .i64 a1, .int .i64 a2, c3])) = xs[3]? := hall 3 _ rfl
    rw [hci] at g
    exact g
  obtain ⟨x3, e3⟩ := hX 3 (by omega)
  rw [e3] at t3
  obtain ⟨a3, q3, _, w3⟩ := DataW.trod_int Try.underlying2 t3
  obtain rfl : c3 = .int .i64 a3 := by simpa using q3
  exact ⟨⟨a0, a1, a2, a3⟩, rfl, fit_wf w0, fit_wf w1, fit_wf w2, fit_wf w3⟩
/-- a row of slots out of what is said of each -/
theorem slots_row {w : World} {a : Addr} {len : Nat} (f : Nat → Slt) (h : ∀ i, i < len → w.cell? (a.add (i * 4)) = some (.int .i64 (f i).key) ∧ w.cell? (a.add (i * 4 + 1)) = some (.int .i64 (f i).gen) ∧ w.cell? (a.add (i * 4 + 2)) = some (.int .i64 (f i).refs) ∧ w.cell? (a.add (i * 4 + 3)) = some (.int .i64 (f i).next)) :
    RowZ (some a) (flat ((List.range len).map f)) w := by
  intro j hj
  rw [flat_len] at hj
  simp at hj
  have hi : j / 4 < len := by omega
  obtain ⟨g0, g1, g2, g3⟩ := flat_get ((List.range len).map f) (j / 4)
  have hgd : ((List.range len).map f).getD (j / 4) zeroSlt = f (j / 4) := by simp [hi]
  rw [hgd] at g0 g1 g2 g3
  obtain ⟨c0, c1, c2, c3⟩ := h (j / 4) hi
  have hs : a.spot = none := by
    have := World.cell?_spot (h 0 (by omega)).1
    simpa [Addr.add] using this
  obtain ⟨b, o, sp⟩ := a
  simp only at hs
  subst hs
  rw [Addr.add_lit] at c0 c1 c2 c3
  refine ⟨b, o, rfl, World.block_lt_of_cell? w _ c0, ?_⟩
  rcases (by omega : j = 4 * (j / 4) ∨ j = 4 * (j / 4) + 1 ∨ j = 4 * (j / 4) + 2 ∨ j = 4 * (j / 4) + 3) with e | e | e | e
  · rw [e, g0, Nat.mul_comm 4]; exact c0
  · rw [e, g1, Nat.mul_comm 4]; exact c1
  · rw [e, g2, Nat.mul_comm 4]; exact c2
  · rw [e, g3, Nat.mul_comm 4]; exact c3
theorem add_add (a : Addr) (m n : Nat) : (a.add m).add n = a.add (m + n) := by
  by_cases hm : m = 0 <;> by_cases hn : n = 0 <;> simp [Addr.add, hm, hn, Nat.add_assoc]
theorem open_slots {H : Type} {enc : TypeId × Value → H} {w : World} {base : Nat} {sp : Nat → Bool} {held : Bool} {fuel : Nat} {cs : List Value} {x : DataW H × List MemPlace}
    (h : DataW.trod enc Try.prog w base sp held fuel 22 cs = some x) :
    ∃ (a : Option Addr) (cap : Nat) (ss : List Slt), cs = [.slice a ss.length cap] ∧ RowZ a (flat ss) w ∧ (∀ s ∈ ss, fitS s) ∧ ss.length ≤ maxLen := by
  rcases Go.Deep.open_slice Try.underlying22 h with ⟨rfl, _⟩ | ⟨a, len, cap, m, n, D, Pl, rfl, hb, hl, hm, hmm, _, hall⟩
  · exact ⟨none, 0, [], rfl, (fun j hj => by simp [flat] at hj), (fun s hs => by cases hs), Nat.zero_le _⟩
  · have hc : Try.prog.cellsOf 74 = 4 := by kernel_rfl
    have hlm : len ≤ m := by rw [hmm]; split <;> omega
    have each : ∀ i, i < len → ∃ s : Slt, fitS s ∧ w.cell? (a.add (i * 4)) = some (.int .i64 s.key) ∧ w.cell? (a.add (i * 4 + 1)) = some (.int .i64 s.gen) ∧ w.cell? (a.add (i * 4 + 2)) = some (.int .i64 s.refs) ∧ w.cell? (a.add (i * 4 + 3)) = some (.int .i64 s.next) := by
      intro i hi
      obtain ⟨cs', hcs, ht⟩ := hall i (by omega)
      obtain ⟨s, rfl, hf⟩ := slot_of ht
      rw [hc] at hcs
      obtain ⟨_, _, hget⟩ := World.cells?_some hcs
      have k0 := hget 0 (by omega)
      have k1 := hget 1 (by omega)
      have k2 := hget 2 (by omega)
      have k3 := hget 3 (by omega)
      rw [add_add] at k0 k1 k2 k3
      exact ⟨s, hf, k0, k1, k2, k3⟩
    let f : Nat → Slt := fun i => if h : i < len then Classical.choose (each i h) else zeroSlt
    have hf : ∀ i, i < len → fitS (f i) ∧ w.cell? (a.add (i * 4)) = some (.int .i64 (f i).key) ∧ w.cell? (a.add (i * 4 + 1)) = some (.int .i64 (f i).gen) ∧ w.cell? (a.add (i * 4 + 2)) = some (.int .i64 (f i).refs) ∧ w.cell? (a.add (i * 4 + 3)) = some (.int .i64 (f i).next) := by
      intro i hi
      have e : f i = Classical.choose (each i hi) := dif_pos hi
      rw [e]
      exact Classical.choose_spec (each i hi)
    refine ⟨some a, cap, (List.range len).map f, by simp, slots_row f (fun i hi => (hf i hi).2), fun s hs => ?_, by simp; omega⟩
    obtain ⟨i, hi, rfl⟩ := List.mem_map.1 hs
    exact (hf i (List.mem_range.1 hi)).1
theorem open_nums {H : Type} {enc : TypeId × Value → H} {w : World} {base : Nat} {sp : Nat → Bool} {held : Bool} {fuel : Nat} {cs : List Value} {x : DataW H × List MemPlace}
    (h : DataW.trod enc Try.prog w base sp held fuel 23 cs = some x) :
    ∃ (a : Option Addr) (cap : Nat) (zs : List Int), cs = [.slice a zs.length cap] ∧ RowZ a zs w ∧ (∀ z ∈ zs, fitZ z) ∧ zs.length ≤ maxLen := by
  rcases open_ints Try.underlying23 Try.underlying2 (by kernel_rfl) h with ⟨rfl, _⟩ | ⟨a, len, cap, zs, rfl, hb, hl, hm, hz, _, hcell, hwf⟩
  · exact ⟨none, 0, [], rfl, (fun j hj => by simp at hj), (fun s hs => by cases hs), Nat.zero_le _⟩
  · have hle : len ≤ zs.length := by rw [hz]; split <;> omega
    refine ⟨some a, cap, zs.take len, by simp [hle], fun j hj => ?_, fun z hz => fit_wf (hwf z (List.mem_of_mem_take hz)), by simp; omega⟩
    have hj' : j < len := by simp at hj; omega
    have c := hcell j (by omega)
    have hs : a.spot = none := by
      have := World.cell?_spot (hcell 0 (by omega))
      simpa [Addr.add] using this
    obtain ⟨b, o, sp⟩ := a
    simp only at hs
    subst hs
    rw [Addr.add_lit] at c
    refine ⟨b, o, rfl, World.block_lt_of_cell? w _ c, ?_⟩
    rw [c]
    simp [hj']
theorem two_of (l : List Value) (h : l.length = 2) : ∃ c0 c1 : Value, l = [c0, c1] := by
  match l, h with
  | [c0, c1], _ => exact ⟨c0, c1, rfl⟩
theorem open_slab {H : Type} {enc : TypeId × Value → H} {w : World} {base b0 : Nat} {sp : Nat → Bool} {held : Bool} {r : Reach} {v : Value} {d : DataW H} {ps : List MemPlace}
    (hval : Value.okWide Try.prog w r b0 25 v) (h : DataW.Trod enc Try.prog w base sp held 25 v d ps) :
    ∃ (aS aH : Option Addr) (cS cH : Nat) (s : Slb), v = .agg #[.slice aS s.slots.length cS, .slice aH s.heads.length cH] ∧ SlabZ aS aH s w ∧ SlabFit s ∧ s.slots.length ≤ maxLen ∧ s.heads.length ≤ maxLen := by
  obtain ⟨cs, rfl, hsz⟩ := okWide_struct Try.underlying25 hval
  obtain ⟨fuel, hf⟩ := h
  obtain ⟨xs, n, rfl, _, hl, hx, hall⟩ := DataW.trod_struct Try.underlying25 hf
  have hc : Try.prog.cellsOf 25 = 2 := by kernel_rfl
  have h1 : Try.prog.cellsOf 22 = 1 := by kernel_rfl
  have h2 : Try.prog.cellsOf 23 = 1 := by kernel_rfl
  obtain ⟨l⟩ := cs
  rw [hc] at hsz
  obtain ⟨c0, c1, rfl⟩ := two_of l hsz
  clear hl hf hval
  have hX : ∀ i, i < 2 → ∃ x, xs[i]? = some x := fun i hi => ⟨xs[i]'(by rw [hx]; exact hi), List.getElem?_eq_getElem _⟩
  have t0 : DataW.trod enc Try.prog w base sp held n 22 [c0] = xs[0]? := by
    have g : DataW.trod enc Try.prog w base sp held n 22 (List.take (Try.prog.cellsOf 22) (List.drop 0 [c0, c1])) = xs[0]? := hall 0 _ rfl
    rw [h1] at g
    exact g
  obtain ⟨x0, e0⟩ := hX 0 (by omega)
  rw [e0] at t0
  obtain ⟨aS, cS, ss, q0, r0, f0, m0⟩ := open_slots t0
  obtain rfl : c0 = .slice aS ss.length cS := by simpa using q0
  have t1 : DataW.trod enc Try.prog w base sp held n 23 [c1] = xs[1]? := by
    have g : DataW.trod enc Try.prog w base sp held n 23 (List.take (Try.prog.cellsOf 23) (List.drop 1 [.slice aS ss.length cS, c1])) = xs[1]? := hall 1 _ rfl
    rw [h2] at g
    exact g
  obtain ⟨x1, e1⟩ := hX 1 (by omega)
  rw [e1] at t1
  obtain ⟨aH, cH, zs, q1, r1, f1, m1⟩ := open_nums t1
  obtain rfl : c1 = .slice aH zs.length cH := by simpa using q1
  exact ⟨aS, aH, cS, cH, ⟨ss, zs⟩, rfl, ⟨r0, r1⟩, ⟨f0, f1⟩, m0, m1⟩
end Go.Proofs.Ytjhkaideckgffaa
