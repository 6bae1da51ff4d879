/- Proved here: a laws.Flow that came in as an argument is its fields, each of its kind (a bridge; no program of its own). -/
import Derived.Test.YtbhemimhmkgfiaaDoorRows
import Derived.WalkKit
import Derived.WalkSpells
import Derived.ProofKit
import Derived.OpenShut
import Derived.ShutString
import Derived.Handy
import Derived.Below
import Derived.ChangeArms
namespace Go.Proofs.YtbhemimhmkgfiaaDoor
open Go.ChangeShapes Go.WideShapes Go.ChangeAt Go.RowKit
set_option linter.unusedVariables false
set_option maxRecDepth 100000

theorem cells_tuple {H : Type} {enc : TypeId × Value → H} {w : World} {base : Nat} {sp : Nat → Bool} {held : Bool} {fuel : Nat} {c0 c1 c2 c3 c4 c5 : Value} {x : DataW H × List MemPlace}
    (hf : DataW.trod enc Tryd.prog w base sp held fuel 23 [c0, c1, c2, c3, c4, c5] = some x) :
    ∃ (a0 : Int) (a1 : Int) (a2 : Int) (a3 : Int) (a4 : Int) (a5 : Int), c0 = .int .i64 a0 ∧ c1 = .int .i64 a1 ∧ c2 = .int .i64 a2 ∧ c3 = .int .i64 a3 ∧ c4 = .int .i64 a4 ∧ c5 = .int .i64 a5 ∧ (Lit.int .i64 a0).wf = true ∧ (Lit.int .i64 a1).wf = true ∧ (Lit.int .i64 a2).wf = true ∧ (Lit.int .i64 a3).wf = true ∧ (Lit.int .i64 a4).wf = true ∧ (Lit.int .i64 a5).wf = true := by
  obtain ⟨xs, n, _, _, hl, hx, hall⟩ := DataW.trod_struct Tryd.underlying23 hf
  have hci : Tryd.prog.cellsOf 2 = 1 := by kernel_rfl
  clear hl hf
  have hX : ∀ i, i < 6 → ∃ x, xs[i]? = some x := fun i hi => ⟨xs[i]'(by rw [hx]; exact hi), List.getElem?_eq_getElem _⟩
  have t0 : DataW.trod enc Tryd.prog w base sp held n 2 [c0] = xs[0]? := by
    have g : DataW.trod enc Tryd.prog w base sp held n 2 (List.take (Tryd.prog.cellsOf 2) (List.drop 0 [c0, c1, c2, c3, c4, c5])) = xs[0]? := hall 0 _ rfl
    rw [hci] at g
    exact g
  obtain ⟨x0, e0⟩ := hX 0 (by omega)
  rw [e0] at t0
  obtain ⟨a0, q0, _, w0⟩ := DataW.trod_int Tryd.underlying2 t0
  obtain rfl : c0 = .int .i64 a0 := by simpa using q0
  have t1 : DataW.trod enc Tryd.prog w base sp held n 2 [c1] = xs[1]? := by
    have g : DataW.trod enc Tryd.prog w base sp held n 2 (List.take (Tryd.prog.cellsOf 2) (List.drop 1 [.int .i64 a0, c1, c2, c3, c4, c5])) = xs[1]? := hall 1 _ rfl
    rw [hci] at g
    exact g
  obtain ⟨x1, e1⟩ := hX 1 (by omega)
  rw [e1] at t1
  obtain ⟨a1, q1, _, w1⟩ := DataW.trod_int Tryd.underlying2 t1
  obtain rfl : c1 = .int .i64 a1 := by simpa using q1
  have t2 : DataW.trod enc Tryd.prog w base sp held n 2 [c2] = xs[2]? := by
    have g : DataW.trod enc Tryd.prog w base sp held n 2 (List.take (Tryd.prog.cellsOf 2) (List.drop 2 [.int .i64 a0, .int .i64 a1, c2, c3, c4, c5])) = xs[2]? := hall 2 _ rfl
    rw [hci] at g
    exact g
  obtain ⟨x2, e2⟩ := hX 2 (by omega)
  rw [e2] at t2
  obtain ⟨a2, q2, _, w2⟩ := DataW.trod_int Tryd.underlying2 t2
  obtain rfl : c2 = .int .i64 a2 := by simpa using q2
  have t3 : DataW.trod enc Tryd.prog w base sp held n 2 [c3] = xs[3]? := by
    have g : DataW.trod enc Tryd.prog w base sp held n 2 (List.take (Tryd.prog.cellsOf 2) (List.drop 3 [.int .i64 a0, .int .i64 a1, .int .i64 a2, c3, c4, c5])) = xs[3]? := hall 3 _ rfl
    rw [hci] at g
    exact g
  obtain ⟨x3, e3⟩ := hX 3 (by omega)
  rw [e3] at t3
  obtain ⟨a3, q3, _, w3⟩ := DataW.trod_int Tryd.underlying2 t3
  obtain rfl : c3 = .int .i64 a3 := by simpa using q3
  have t4 : DataW.trod enc Tryd.prog w base sp held n 2 [c4] = xs[4]? := by
    have g : DataW.trod enc Tryd.prog w base sp held n 2 (List.take (Tryd.prog.cellsOf 2) (List.drop 4 [.int .i64 a0, .int .i64 a1, .int .i64 a2, .int .i64 a3, c4, c5])) = xs[4]? := hall 4 _ rfl
    rw [hci] at g
    exact g
  obtain ⟨x4, e4⟩ := hX 4 (by omega)
  rw [e4] at t4
  obtain ⟨a4, q4, _, w4⟩ := DataW.trod_int Tryd.underlying2 t4
  obtain rfl : c4 = .int .i64 a4 := by simpa using q4
  have t5 : DataW.trod enc Tryd.prog w base sp held n 2 [c5] = xs[5]? := by
    have g : DataW.trod enc Tryd.prog w base sp held n 2 (List.take (Tryd.prog.cellsOf 2) (List.drop 5 [.int .i64 a0, .int .i64 a1, .int .i64 a2, .int .i64 a3, .int .i64 a4, c5])) = xs[5]? := hall 5 _ rfl
    rw [hci] at g
    exact g
  obtain ⟨x5, e5⟩ := hX 5 (by omega)
  rw [e5] at t5
  obtain ⟨a5, q5, _, w5⟩ := DataW.trod_int Tryd.underlying2 t5
  obtain rfl : c5 = .int .i64 a5 := by simpa using q5
  exact ⟨a0, a1, a2, a3, a4, a5, rfl, rfl, rfl, rfl, rfl, rfl, w0, w1, w2, w3, w4, w5⟩

theorem list_of_flow (l : List Value) (h : l.length = 17) : ∃ c0 c1 c2 c3 c4 c5 c6 c7 c8 c9 c10 c11 c12 c13 c14 c15 c16 : Value, l = [c0, c1, c2, c3, c4, c5, c6, c7, c8, c9, c10, c11, c12, c13, c14, c15, c16] := by
  match l, h with
  | [c0, c1, c2, c3, c4, c5, c6, c7, c8, c9, c10, c11, c12, c13, c14, c15, c16], _ => exact ⟨c0, c1, c2, c3, c4, c5, c6, c7, c8, c9, c10, c11, c12, c13, c14, c15, c16, rfl⟩

theorem open_flow {H : Type} {enc : TypeId × Value → H} {w : World} {base b0 : Nat} {sp : Nat → Bool} {held : Bool} {r : Reach} {v : Value} {d : DataW H} {ps : List MemPlace}
    (hval : Value.okWide Tryd.prog w r b0 25 v) (h : DataW.Trod enc Tryd.prog w base sp held 25 v d ps) :
    ∃ (a0 : Int) (a1 : Int) (a2 : Int) (a3 : Int) (a4 : Int) (a5 : Int) (a6 : Int) (a7 : Int) (a8 : Int) (a9 : Int) (a10 : Int) (a11 : Int) (a12 : Int) (b13 : Bool) (b14 : Bool) (a15 : Int) (a16 : Int), v = .agg #[.int .i64 a0, .int .i64 a1, .int .i64 a2, .int .i64 a3, .int .i64 a4, .int .i64 a5, .int .i64 a6, .int .i64 a7, .int .i64 a8, .int .i64 a9, .int .i64 a10, .int .i64 a11, .int .i64 a12, .bool b13, .bool b14, .int .i64 a15, .int .i64 a16] ∧ (Lit.int .i64 a0).wf = true ∧ (Lit.int .i64 a1).wf = true ∧ (Lit.int .i64 a2).wf = true ∧ (Lit.int .i64 a3).wf = true ∧ (Lit.int .i64 a4).wf = true ∧ (Lit.int .i64 a5).wf = true ∧ (Lit.int .i64 a6).wf = true ∧ (Lit.int .i64 a7).wf = true ∧ (Lit.int .i64 a8).wf = true ∧ (Lit.int .i64 a9).wf = true ∧ (Lit.int .i64 a10).wf = true ∧ (Lit.int .i64 a11).wf = true ∧ (Lit.int .i64 a12).wf = true ∧ (Lit.int .i64 a15).wf = true ∧ (Lit.int .i64 a16).wf = true := by
  obtain ⟨cs, rfl, hsz⟩ := okWide_struct Tryd.underlying25 hval
  obtain ⟨fuel, hf⟩ := h
  obtain ⟨xs, n, rfl, _, hl, hx, hall⟩ := DataW.trod_struct Tryd.underlying25 hf
  have hc : Tryd.prog.cellsOf 25 = 17 := by kernel_rfl
  have hcb : Tryd.prog.cellsOf 4 = 1 := by kernel_rfl
  have hci : Tryd.prog.cellsOf 2 = 1 := by kernel_rfl
  have hcT : Tryd.prog.cellsOf 23 = 6 := by kernel_rfl
  obtain ⟨l⟩ := cs
  rw [hc] at hsz
  obtain ⟨c0, c1, c2, c3, c4, c5, c6, c7, c8, c9, c10, c11, c12, c13, c14, c15, c16, rfl⟩ := list_of_flow l hsz
  clear hl hf hval
  have hX : ∀ i, i < 7 → ∃ x, xs[i]? = some x := fun i hi => ⟨xs[i]'(by rw [hx]; exact hi), List.getElem?_eq_getElem _⟩
  have t0 : DataW.trod enc Tryd.prog w base sp held n 23 [c0, c1, c2, c3, c4, c5] = xs[0]? := by
    have g : DataW.trod enc Tryd.prog w base sp held n 23 (List.take (Tryd.prog.cellsOf 23) (List.drop 0 [c0, c1, c2, c3, c4, c5, c6, c7, c8, c9, c10, c11, c12, c13, c14, c15, c16])) = xs[0]? := hall 0 _ rfl
    rw [hcT] at g
    exact g
  obtain ⟨x0, e0⟩ := hX 0 (by omega)
  rw [e0] at t0
  obtain ⟨a0, a1, a2, a3, a4, a5, rfl, rfl, rfl, rfl, rfl, rfl, w0, w1, w2, w3, w4, w5⟩ := cells_tuple t0
  have t1 : DataW.trod enc Tryd.prog w base sp held n 23 [c6, c7, c8, c9, c10, c11] = xs[1]? := by
    have g : DataW.trod enc Tryd.prog w base sp held n 23 (List.take (Tryd.prog.cellsOf 23) (List.drop 6 [.int .i64 a0, .int .i64 a1, .int .i64 a2, .int .i64 a3, .int .i64 a4, .int .i64 a5, c6, c7, c8, c9, c10, c11, c12, c13, c14, c15, c16])) = xs[1]? := hall 1 _ rfl
    rw [hcT] at g
    exact g
  obtain ⟨x1, e1⟩ := hX 1 (by omega)
  rw [e1] at t1
  obtain ⟨a6, a7, a8, a9, a10, a11, rfl, rfl, rfl, rfl, rfl, rfl, w6, w7, w8, w9, w10, w11⟩ := cells_tuple t1
  have t2 : DataW.trod enc Tryd.prog w base sp held n 2 [c12] = xs[2]? := by
    have g : DataW.trod enc Tryd.prog w base sp held n 2 (List.take (Tryd.prog.cellsOf 2) (List.drop 12 [.int .i64 a0, .int .i64 a1, .int .i64 a2, .int .i64 a3, .int .i64 a4, .int .i64 a5, .int .i64 a6, .int .i64 a7, .int .i64 a8, .int .i64 a9, .int .i64 a10, .int .i64 a11, c12, c13, c14, c15, c16])) = xs[2]? := hall 2 _ rfl
    rw [hci] at g
    exact g
  obtain ⟨x2, e2⟩ := hX 2 (by omega)
  rw [e2] at t2
  obtain ⟨a12, q12, _, w12⟩ := DataW.trod_int Tryd.underlying2 t2
  obtain rfl : c12 = .int .i64 a12 := by simpa using q12
  have t3 : DataW.trod enc Tryd.prog w base sp held n 4 [c13] = xs[3]? := by
    have g : DataW.trod enc Tryd.prog w base sp held n 4 (List.take (Tryd.prog.cellsOf 4) (List.drop 13 [.int .i64 a0, .int .i64 a1, .int .i64 a2, .int .i64 a3, .int .i64 a4, .int .i64 a5, .int .i64 a6, .int .i64 a7, .int .i64 a8, .int .i64 a9, .int .i64 a10, .int .i64 a11, .int .i64 a12, c13, c14, c15, c16])) = xs[3]? := hall 3 _ rfl
    rw [hcb] at g
    exact g
  obtain ⟨x3, e3⟩ := hX 3 (by omega)
  rw [e3] at t3
  obtain ⟨b13, q13, _⟩ := DataW.trod_bool Tryd.underlying4 t3
  obtain rfl : c13 = .bool b13 := by simpa using q13
  have t4 : DataW.trod enc Tryd.prog w base sp held n 4 [c14] = xs[4]? := by
    have g : DataW.trod enc Tryd.prog w base sp held n 4 (List.take (Tryd.prog.cellsOf 4) (List.drop 14 [.int .i64 a0, .int .i64 a1, .int .i64 a2, .int .i64 a3, .int .i64 a4, .int .i64 a5, .int .i64 a6, .int .i64 a7, .int .i64 a8, .int .i64 a9, .int .i64 a10, .int .i64 a11, .int .i64 a12, .bool b13, c14, c15, c16])) = xs[4]? := hall 4 _ rfl
    rw [hcb] at g
    exact g
  obtain ⟨x4, e4⟩ := hX 4 (by omega)
  rw [e4] at t4
  obtain ⟨b14, q14, _⟩ := DataW.trod_bool Tryd.underlying4 t4
  obtain rfl : c14 = .bool b14 := by simpa using q14
  have t5 : DataW.trod enc Tryd.prog w base sp held n 2 [c15] = xs[5]? := by
    have g : DataW.trod enc Tryd.prog w base sp held n 2 (List.take (Tryd.prog.cellsOf 2) (List.drop 15 [.int .i64 a0, .int .i64 a1, .int .i64 a2, .int .i64 a3, .int .i64 a4, .int .i64 a5, .int .i64 a6, .int .i64 a7, .int .i64 a8, .int .i64 a9, .int .i64 a10, .int .i64 a11, .int .i64 a12, .bool b13, .bool b14, c15, c16])) = xs[5]? := hall 5 _ rfl
    rw [hci] at g
    exact g
  obtain ⟨x5, e5⟩ := hX 5 (by omega)
  rw [e5] at t5
  obtain ⟨a15, q15, _, w15⟩ := DataW.trod_int Tryd.underlying2 t5
  obtain rfl : c15 = .int .i64 a15 := by simpa using q15
  have t6 : DataW.trod enc Tryd.prog w base sp held n 2 [c16] = xs[6]? := by
    have g : DataW.trod enc Tryd.prog w base sp held n 2 (List.take (Tryd.prog.cellsOf 2) (List.drop 16 [.int .i64 a0, .int .i64 a1, .int .i64 a2, .int .i64 a3, .int .i64 a4, .int .i64 a5, .int .i64 a6, .int .i64 a7, .int .i64 a8, .int .i64 a9, .int .i64 a10, .int .i64 a11, .int .i64 a12, .bool b13, .bool b14, .int .i64 a15, c16])) = xs[6]? := hall 6 _ rfl
    rw [hci] at g
    exact g
  obtain ⟨x6, e6⟩ := hX 6 (by omega)
  rw [e6] at t6
  obtain ⟨a16, q16, _, w16⟩ := DataW.trod_int Tryd.underlying2 t6
  obtain rfl : c16 = .int .i64 a16 := by simpa using q16
  exact ⟨a0, a1, a2, a3, a4, a5, a6, a7, a8, a9, a10, a11, a12, b13, b14, a15, a16, rfl, w0, w1, w2, w3, w4, w5, w6, w7, w8, w9, w10, w11, w12, w15, w16⟩
end Go.Proofs.YtbhemimhmkgfiaaDoor
