/- Proved here: a laws.Packet that came in as an argument is its fields, each of its kind (a bridge; no program of its own). -/
import Derived.Test.YtbhemimhmkgfiaaDoorRows
import Derived.WalkKit
import Derived.WalkSpells
import Derived.ProofKit
import Derived.OpenShut
import Derived.ShutString
import Derived.Handy
import Derived.Below
import Derived.ChangeArms
namespace Go.Proofs.YtbhemimhmkgfiaaDoor
open Go.ChangeShapes Go.WideShapes Go.ChangeAt Go.RowKit
set_option linter.unusedVariables false
set_option maxRecDepth 100000

theorem list_of_packet (l : List Value) (h : l.length = 10) : ∃ c0 c1 c2 c3 c4 c5 c6 c7 c8 c9 : Value, l = [c0, c1, c2, c3, c4, c5, c6, c7, c8, c9] := by
  match l, h with
  | [c0, c1, c2, c3, c4, c5, c6, c7, c8, c9], _ => exact ⟨c0, c1, c2, c3, c4, c5, c6, c7, c8, c9, rfl⟩

theorem open_packet {H : Type} {enc : TypeId × Value → H} {w : World} {base b0 : Nat} {sp : Nat → Bool} {held : Bool} {r : Reach} {v : Value} {d : DataW H} {ps : List MemPlace}
    (hval : Value.okWide Tryd.prog w r b0 27 v) (h : DataW.Trod enc Tryd.prog w base sp held 27 v d ps) :
    ∃ (a0 : Int) (a1 : Int) (a2 : Int) (a3 : Int) (a4 : Int) (a5 : Int) (a6 : Int) (a7 : Int) (a8 : Int) (s9 : ByteArray), v = .agg #[.int .i64 a0, .int .i64 a1, .int .i64 a2, .int .i64 a3, .int .i64 a4, .int .i64 a5, .int .i64 a6, .int .i64 a7, .int .i64 a8, .string s9] ∧ (Lit.int .i64 a0).wf = true ∧ (Lit.int .i64 a1).wf = true ∧ (Lit.int .i64 a2).wf = true ∧ (Lit.int .i64 a3).wf = true ∧ (Lit.int .i64 a4).wf = true ∧ (Lit.int .i64 a5).wf = true ∧ (Lit.int .i64 a6).wf = true ∧ (Lit.int .i64 a7).wf = true ∧ (Lit.int .i64 a8).wf = true ∧ s9.size ≤ maxLen := by
  obtain ⟨cs, rfl, hsz⟩ := okWide_struct Tryd.underlying27 hval
  obtain ⟨fuel, hf⟩ := h
  obtain ⟨xs, n, rfl, _, hl, hx, hall⟩ := DataW.trod_struct Tryd.underlying27 hf
  have hc : Tryd.prog.cellsOf 27 = 10 := by kernel_rfl
  have hci : Tryd.prog.cellsOf 2 = 1 := by kernel_rfl
  have hcs : Tryd.prog.cellsOf 9 = 1 := by kernel_rfl
  obtain ⟨l⟩ := cs
  rw [hc] at hsz
  obtain ⟨c0, c1, c2, c3, c4, c5, c6, c7, c8, c9, rfl⟩ := list_of_packet l hsz
  clear hl hf hval
  have hX : ∀ i, i < 10 → ∃ x, xs[i]? = some x := fun i hi => ⟨xs[i]'(by rw [hx]; exact hi), List.getElem?_eq_getElem _⟩
  have t0 : DataW.trod enc Tryd.prog w base sp held n 2 [c0] = xs[0]? := by
    have g : DataW.trod enc Tryd.prog w base sp held n 2 (List.take (Tryd.prog.cellsOf 2) (List.drop 0 [c0, c1, c2, c3, c4, c5, c6, c7, c8, c9])) = xs[0]? := hall 0 _ rfl
    rw [hci] at g
    exact g
  obtain ⟨x0, e0⟩ := hX 0 (by omega)
  rw [e0] at t0
  obtain ⟨a0, q0, _, w0⟩ := DataW.trod_int Tryd.underlying2 t0
  obtain rfl : c0 = .int .i64 a0 := by simpa using q0
  have t1 : DataW.trod enc Tryd.prog w base sp held n 2 [c1] = xs[1]? := by
    have g : DataW.trod enc Tryd.prog w base sp held n 2 (List.take (Tryd.prog.cellsOf 2) (List.drop 1 [.int .i64 a0, c1, c2, c3, c4, c5, c6, c7, c8, c9])) = xs[1]? := hall 1 _ rfl
    rw [hci] at g
    exact g
  obtain ⟨x1, e1⟩ := hX 1 (by omega)
  rw [e1] at t1
  obtain ⟨a1, q1, _, w1⟩ := DataW.trod_int Tryd.underlying2 t1
  obtain rfl : c1 = .int .i64 a1 := by simpa using q1
  have t2 : DataW.trod enc Tryd.prog w base sp held n 2 [c2] = xs[2]? := by
    have g : DataW.trod enc Tryd.prog w base sp held n 2 (List.take (Tryd.prog.cellsOf 2) (List.drop 2 [.int .i64 a0, .int .i64 a1, c2, c3, c4, c5, c6, c7, c8, c9])) = xs[2]? := hall 2 _ rfl
    rw [hci] at g
    exact g
  obtain ⟨x2, e2⟩ := hX 2 (by omega)
  rw [e2] at t2
  obtain ⟨a2, q2, _, w2⟩ := DataW.trod_int Tryd.underlying2 t2
  obtain rfl : c2 = .int .i64 a2 := by simpa using q2
  have t3 : DataW.trod enc Tryd.prog w base sp held n 2 [c3] = xs[3]? := by
    have g : DataW.trod enc Tryd.prog w base sp held n 2 (List.take (Tryd.prog.cellsOf 2) (List.drop 3 [.int .i64 a0, .int .i64 a1, .int .i64 a2, c3, c4, c5, c6, c7, c8, c9])) = xs[3]? := hall 3 _ rfl
    rw [hci] at g
    exact g
  obtain ⟨x3, e3⟩ := hX 3 (by omega)
  rw [e3] at t3
  obtain ⟨a3, q3, _, w3⟩ := DataW.trod_int Tryd.underlying2 t3
  obtain rfl : c3 = .int .i64 a3 := by simpa using q3
  have t4 : DataW.trod enc Tryd.prog w base sp held n 2 [c4] = xs[4]? := by
    have g : DataW.trod enc Tryd.prog w base sp held n 2 (List.take (Tryd.prog.cellsOf 2) (List.drop 4 [.int .i64 a0, .int .i64 a1, .int .i64 a2, .int .i64 a3, c4, c5, c6, c7, c8, c9])) = xs[4]? := hall 4 _ rfl
    rw [hci] at g
    exact g
  obtain ⟨x4, e4⟩ := hX 4 (by omega)
  rw [e4] at t4
  obtain ⟨a4, q4, _, w4⟩ := DataW.trod_int Tryd.underlying2 t4
  obtain rfl : c4 = .int .i64 a4 := by simpa using q4
  have t5 : DataW.trod enc Tryd.prog w base sp held n 2 [c5] = xs[5]? := by
    have g : DataW.trod enc Tryd.prog w base sp held n 2 (List.take (Tryd.prog.cellsOf 2) (List.drop 5 [.int .i64 a0, .int .i64 a1, .int .i64 a2, .int .i64 a3, .int .i64 a4, c5, c6, c7, c8, c9])) = xs[5]? := hall 5 _ rfl
    rw [hci] at g
    exact g
  obtain ⟨x5, e5⟩ := hX 5 (by omega)
  rw [e5] at t5
  obtain ⟨a5, q5, _, w5⟩ := DataW.trod_int Tryd.underlying2 t5
  obtain rfl : c5 = .int .i64 a5 := by simpa using q5
  have t6 : DataW.trod enc Tryd.prog w base sp held n 2 [c6] = xs[6]? := by
    have g : DataW.trod enc Tryd.prog w base sp held n 2 (List.take (Tryd.prog.cellsOf 2) (List.drop 6 [.int .i64 a0, .int .i64 a1, .int .i64 a2, .int .i64 a3, .int .i64 a4, .int .i64 a5, c6, c7, c8, c9])) = xs[6]? := hall 6 _ rfl
    rw [hci] at g
    exact g
  obtain ⟨x6, e6⟩ := hX 6 (by omega)
  rw [e6] at t6
  obtain ⟨a6, q6, _, w6⟩ := DataW.trod_int Tryd.underlying2 t6
  obtain rfl : c6 = .int .i64 a6 := by simpa using q6
  have t7 : DataW.trod enc Tryd.prog w base sp held n 2 [c7] = xs[7]? := by
    have g : DataW.trod enc Tryd.prog w base sp held n 2 (List.take (Tryd.prog.cellsOf 2) (List.drop 7 [.int .i64 a0, .int .i64 a1, .int .i64 a2, .int .i64 a3, .int .i64 a4, .int .i64 a5, .int .i64 a6, c7, c8, c9])) = xs[7]? := hall 7 _ rfl
    rw [hci] at g
    exact g
  obtain ⟨x7, e7⟩ := hX 7 (by omega)
  rw [e7] at t7
  obtain ⟨a7, q7, _, w7⟩ := DataW.trod_int Tryd.underlying2 t7
  obtain rfl : c7 = .int .i64 a7 := by simpa using q7
  have t8 : DataW.trod enc Tryd.prog w base sp held n 2 [c8] = xs[8]? := by
    have g : DataW.trod enc Tryd.prog w base sp held n 2 (List.take (Tryd.prog.cellsOf 2) (List.drop 8 [.int .i64 a0, .int .i64 a1, .int .i64 a2, .int .i64 a3, .int .i64 a4, .int .i64 a5, .int .i64 a6, .int .i64 a7, c8, c9])) = xs[8]? := hall 8 _ rfl
    rw [hci] at g
    exact g
  obtain ⟨x8, e8⟩ := hX 8 (by omega)
  rw [e8] at t8
  obtain ⟨a8, q8, _, w8⟩ := DataW.trod_int Tryd.underlying2 t8
  obtain rfl : c8 = .int .i64 a8 := by simpa using q8
  have t9 : DataW.trod enc Tryd.prog w base sp held n 9 [c9] = xs[9]? := by
    have g : DataW.trod enc Tryd.prog w base sp held n 9 (List.take (Tryd.prog.cellsOf 9) (List.drop 9 [.int .i64 a0, .int .i64 a1, .int .i64 a2, .int .i64 a3, .int .i64 a4, .int .i64 a5, .int .i64 a6, .int .i64 a7, .int .i64 a8, c9])) = xs[9]? := hall 9 _ rfl
    rw [hcs] at g
    exact g
  obtain ⟨x9, e9⟩ := hX 9 (by omega)
  rw [e9] at t9
  obtain ⟨s9, q9, _, w9⟩ := DataW.trod_string Tryd.underlying9 t9
  obtain rfl : c9 = .string s9 := by simpa using q9
  exact ⟨a0, a1, a2, a3, a4, a5, a6, a7, a8, s9, rfl, w0, w1, w2, w3, w4, w5, w6, w7, w8, w9⟩
end Go.Proofs.YtbhemimhmkgfiaaDoor
