/- Proved here: a row of laws.Tuple that came in as an argument can be read (a bridge; no program of its own). -/
import Derived.Test.YtpcflfhblomcoaaRows
import Derived.Test.YtpcflfhblomcoaaRowTuple
import Derived.WalkKit
import Derived.WalkSpells
import Derived.ProofKit
import Derived.OpenShut
import Derived.Handy
import Derived.Below
import Derived.ChangeArms
import Derived.Deep.Slices
namespace Go.Proofs.Ytpcflfhblomcoaa
open Go.ChangeShapes Go.WideShapes Go.ChangeAt Go.RowKit
set_option linter.unusedVariables false
set_option maxRecDepth 100000

theorem cells_of_tuple (l : List Value) (h : l.length = 6) : ∃ c0 c1 c2 c3 c4 c5 : Value, l = [c0, c1, c2, c3, c4, c5] := by
  match l, h with
  | [c0, c1, c2, c3, c4, c5], _ => exact ⟨c0, c1, c2, c3, c4, c5, rfl⟩
theorem one_tuple {H : Type} {enc : TypeId × Value → H} {w : World} {base : Nat} {sp : Nat → Bool} {held : Bool} {fuel : Nat} {cs : List Value} {x : DataW H × List MemPlace}
    (h : DataW.trod enc Try.prog w base sp held fuel 73 cs = some x) :
    ∃ s : Tp, cs = [.int .i64 s.proto, .int .i64 s.src, .int .i64 s.sport, .int .i64 s.dst, .int .i64 s.dport, .int .i64 s.kind] := by
  obtain ⟨xs, n, rfl, _, hl, hx, hall⟩ := DataW.trod_struct Try.underlying73 h
  have hc : Try.prog.cellsOf 73 = 6 := by kernel_rfl
  have hci : Try.prog.cellsOf 2 = 1 := by kernel_rfl
  rw [hc] at hl
  obtain ⟨c0, c1, c2, c3, c4, c5, rfl⟩ := cells_of_tuple cs hl
  clear hl h
  have hX : ∀ i, i < 6 → ∃ x, xs[i]? = some x := fun i hi => ⟨xs[i]'(by rw [hx]; exact hi), List.getElem?_eq_getElem _⟩
  have t0 : DataW.trod enc Try.prog w base sp held n 2 [c0] = xs[0]? := by
    have g : DataW.trod enc Try.prog w base sp held n 2 (List.take (Try.prog.cellsOf 2) (List.drop 0 [c0, c1, c2, c3, c4, c5])) = xs[0]? := hall 0 _ rfl
    rw [hci] at g
    exact g
  obtain ⟨x0, e0⟩ := hX 0 (by omega)
  rw [e0] at t0
  obtain ⟨a0, q0, _, w0⟩ := DataW.trod_int Try.underlying2 t0
  obtain rfl : c0 = .int .i64 a0 := by simpa using q0
  have t1 : DataW.trod enc Try.prog w base sp held n 2 [c1] = xs[1]? := by
    have g : DataW.trod enc Try.prog w base sp held n 2 (List.take (Try.prog.cellsOf 2) (List.drop 1 [.int .i64 a0, c1, c2, c3, c4, c5])) = xs[1]? := hall 1 _ rfl
    rw [hci] at g
    exact g
  obtain ⟨x1, e1⟩ := hX 1 (by omega)
  rw [e1] at t1
  obtain ⟨a1, q1, _, w1⟩ := DataW.trod_int Try.underlying2 t1
  obtain rfl : c1 = .int .i64 a1 := by simpa using q1
  have t2 : DataW.trod enc Try.prog w base sp held n 2 [c2] = xs[2]? := by
    have g : DataW.trod enc Try.prog w base sp held n 2 (List.take (Try.prog.cellsOf 2) (List.drop 2 [.int .i64 a0, .int .i64 a1, c2, c3, c4, c5])) = xs[2]? := hall 2 _ rfl
    rw [hci] at g
    exact g
  obtain ⟨x2, e2⟩ := hX 2 (by omega)
  rw [e2] at t2
  obtain ⟨a2, q2, _, w2⟩ := DataW.trod_int Try.underlying2 t2
  obtain rfl : c2 = .int .i64 a2 := by simpa using q2
  have t3 : DataW.trod enc Try.prog w base sp held n 2 [c3] = xs[3]? := by
    have g : DataW.trod enc Try.prog w base sp held n 2 (List.take (Try.prog.cellsOf 2) (List.drop 3 [.int .i64 a0, .int .i64 a1, .int .i64 a2, c3, c4, c5])) = xs[3]? := hall 3 _ rfl
    rw [hci] at g
    exact g
  obtain ⟨x3, e3⟩ := hX 3 (by omega)
  rw [e3] at t3
  obtain ⟨a3, q3, _, w3⟩ := DataW.trod_int Try.underlying2 t3
  obtain rfl : c3 = .int .i64 a3 := by simpa using q3
  have t4 : DataW.trod enc Try.prog w base sp held n 2 [c4] = xs[4]? := by
    have g : DataW.trod enc Try.prog w base sp held n 2 (List.take (Try.prog.cellsOf 2) (List.drop 4 [.int .i64 a0, .int .i64 a1, .int .i64 a2, .int .i64 a3, c4, c5])) = xs[4]? := hall 4 _ rfl
    rw [hci] at g
    exact g
  obtain ⟨x4, e4⟩ := hX 4 (by omega)
  rw [e4] at t4
  obtain ⟨a4, q4, _, w4⟩ := DataW.trod_int Try.underlying2 t4
  obtain rfl : c4 = .int .i64 a4 := by simpa using q4
  have t5 : DataW.trod enc Try.prog w base sp held n 2 [c5] = xs[5]? := by
    have g : DataW.trod enc Try.prog w base sp held n 2 (List.take (Try.prog.cellsOf 2) (List.drop 5 [.int .i64 a0, .int .i64 a1, .int .i64 a2, .int .i64 a3, .int .i64 a4, c5])) = xs[5]? := hall 5 _ rfl
    rw [hci] at g
    exact g
  obtain ⟨x5, e5⟩ := hX 5 (by omega)
  rw [e5] at t5
  obtain ⟨a5, q5, _, w5⟩ := DataW.trod_int Try.underlying2 t5
  obtain rfl : c5 = .int .i64 a5 := by simpa using q5
  exact ⟨⟨a0, a1, a2, a3, a4, a5⟩, rfl⟩
theorem tuples_row {w : World} {a : Addr} {len : Nat} (f : Nat → Tp) (h : ∀ i, i < len → w.cell? (a.add (i * 6)) = some (.int .i64 (f i).proto) ∧ w.cell? (a.add (i * 6 + 1)) = some (.int .i64 (f i).src) ∧ w.cell? (a.add (i * 6 + 2)) = some (.int .i64 (f i).sport) ∧ w.cell? (a.add (i * 6 + 3)) = some (.int .i64 (f i).dst) ∧ w.cell? (a.add (i * 6 + 4)) = some (.int .i64 (f i).dport) ∧ w.cell? (a.add (i * 6 + 5)) = some (.int .i64 (f i).kind)) :
    RowZ (some a) (flatTuple ((List.range len).map f)) w := by
  intro j hj
  rw [flatTuple_len] at hj
  simp at hj
  have hi : j / 6 < len := by omega
  obtain ⟨g0, g1, g2, g3, g4, g5⟩ := flatTuple_get ((List.range len).map f) (j / 6)
  have hgd : ((List.range len).map f).getD (j / 6) zeroTp = f (j / 6) := by simp [hi]
  rw [hgd] at g0 g1 g2 g3 g4 g5
  obtain ⟨c0, c1, c2, c3, c4, c5⟩ := h (j / 6) hi
  have hs : a.spot = none := by
    have := World.cell?_spot (h 0 (by omega)).1
    simpa [Addr.add] using this
  obtain ⟨b, o, sp⟩ := a
  simp only at hs
  subst hs
  rw [Addr.add_lit] at c0 c1 c2 c3 c4 c5
  refine ⟨b, o, rfl, World.block_lt_of_cell? w _ c0, ?_⟩
  rcases (by omega : j = 6 * (j / 6) ∨ j = 6 * (j / 6) + 1 ∨ j = 6 * (j / 6) + 2 ∨ j = 6 * (j / 6) + 3 ∨ j = 6 * (j / 6) + 4 ∨ j = 6 * (j / 6) + 5) with e | e | e | e | e | e
  · rw [e, g0, Nat.mul_comm 6]; exact c0
  · rw [e, g1, Nat.mul_comm 6]; exact c1
  · rw [e, g2, Nat.mul_comm 6]; exact c2
  · rw [e, g3, Nat.mul_comm 6]; exact c3
  · rw [e, g4, Nat.mul_comm 6]; exact c4
  · rw [e, g5, Nat.mul_comm 6]; exact c5
theorem add_add_tuple (a : Addr) (m n : Nat) : (a.add m).add n = a.add (m + n) := by
  by_cases hm : m = 0 <;> by_cases hn : n = 0 <;> simp [Addr.add, hm, hn, Nat.add_assoc]
theorem open_tuples0 {H : Type} {enc : TypeId × Value → H} {w : World} {base : Nat} {sp : Nat → Bool} {held : Bool} {fuel : Nat} {cs : List Value} {x : DataW H × List MemPlace}
    (h : DataW.trod enc Try.prog w base sp held fuel 74 cs = some x) :
    ∃ (a : Option Addr) (cap : Nat) (ss : List Tp), cs = [.slice a ss.length cap] ∧ RowZ a (flatTuple ss) w ∧ ss.length ≤ maxLen := by
  rcases Go.Deep.open_slice Try.underlying74 h with ⟨rfl, _⟩ | ⟨a, len, cap, m, n, D, Pl, rfl, hb, hl, hm, hmm, _, hall⟩
  · exact ⟨none, 0, [], rfl, (fun j hj => by simp [flatTuple] at hj), Nat.zero_le _⟩
  · have hc : Try.prog.cellsOf 73 = 6 := by kernel_rfl
    have hlm : len ≤ m := by rw [hmm]; split <;> omega
    have each : ∀ i, i < len → ∃ s : Tp, w.cell? (a.add (i * 6)) = some (.int .i64 s.proto) ∧ w.cell? (a.add (i * 6 + 1)) = some (.int .i64 s.src) ∧ w.cell? (a.add (i * 6 + 2)) = some (.int .i64 s.sport) ∧ w.cell? (a.add (i * 6 + 3)) = some (.int .i64 s.dst) ∧ w.cell? (a.add (i * 6 + 4)) = some (.int .i64 s.dport) ∧ w.cell? (a.add (i * 6 + 5)) = some (.int .i64 s.kind) := by
      intro i hi
      obtain ⟨cs', hcs, ht⟩ := hall i (by omega)
      obtain ⟨s, rfl⟩ := one_tuple ht
      rw [hc] at hcs
      obtain ⟨_, _, hget⟩ := World.cells?_some hcs
      have k0 := hget 0 (by omega)
      have k1 := hget 1 (by omega)
      have k2 := hget 2 (by omega)
      have k3 := hget 3 (by omega)
      have k4 := hget 4 (by omega)
      have k5 := hget 5 (by omega)
      rw [add_add_tuple] at k0 k1 k2 k3 k4 k5
      exact ⟨s, k0, k1, k2, k3, k4, k5⟩
    let f : Nat → Tp := fun i => if h : i < len then Classical.choose (each i h) else zeroTp
    have hf : ∀ i, i < len → w.cell? (a.add (i * 6)) = some (.int .i64 (f i).proto) ∧ w.cell? (a.add (i * 6 + 1)) = some (.int .i64 (f i).src) ∧ w.cell? (a.add (i * 6 + 2)) = some (.int .i64 (f i).sport) ∧ w.cell? (a.add (i * 6 + 3)) = some (.int .i64 (f i).dst) ∧ w.cell? (a.add (i * 6 + 4)) = some (.int .i64 (f i).dport) ∧ w.cell? (a.add (i * 6 + 5)) = some (.int .i64 (f i).kind) := by
      intro i hi
      have e : f i = Classical.choose (each i hi) := dif_pos hi
      rw [e]
      exact Classical.choose_spec (each i hi)
    exact ⟨some a, cap, (List.range len).map f, by simp, tuples_row f hf, by simp; omega⟩
theorem open_tuples {H : Type} {enc : TypeId × Value → H} {w : World} {base b0 : Nat} {sp : Nat → Bool} {held : Bool} {r : Reach} {v : Value} {d : DataW H} {ps : List MemPlace}
    (hval : Value.okWide Try.prog w r b0 74 v) (h : DataW.Trod enc Try.prog w base sp held 74 v d ps) :
    ∃ (a : Option Addr) (cap : Nat) (ss : List Tp), v = .slice a ss.length cap ∧ RowZ a (flatTuple ss) w ∧ ss.length ≤ maxLen := by
  obtain ⟨a, len, cap, rfl⟩ := okWide_slice Try.underlying74 hval
  obtain ⟨fuel, hf⟩ := h
  obtain ⟨a', cap', ss, hcs, hr, hl⟩ := open_tuples0 hf
  simp [Value.cells] at hcs
  obtain ⟨rfl, rfl, rfl⟩ := hcs
  exact ⟨_, _, ss, rfl, hr, hl⟩
end Go.Proofs.Ytpcflfhblomcoaa
