/- Proved here: a laws.Tuple that came in as an argument is its fields, each of its kind (a bridge; no program of its own). · Proved here: small facts for walks: equal numbers return alike (no program of its own). -/
import Derived.Test.YtpcflfhblomcoaaRows
import Derived.WalkKit
import Derived.WalkSpells
import Derived.ProofKit
import Derived.OpenShut
import Derived.ShutString
import Derived.Handy
import Derived.Below
import Derived.ChangeArms
import Derived.Test.YtpcflfhblomcoaaSumMath
section
namespace Go.Proofs.Ytpcflfhblomcoaa
open Go.ChangeShapes Go.WideShapes Go.ChangeAt Go.RowKit
set_option linter.unusedVariables false
set_option maxRecDepth 100000

theorem list_of_tuple (l : List Value) (h : l.length = 6) : ∃ c0 c1 c2 c3 c4 c5 : Value, l = [c0, c1, c2, c3, c4, c5] := by
  match l, h with
  | [c0, c1, c2, c3, c4, c5], _ => exact ⟨c0, c1, c2, c3, c4, c5, rfl⟩

theorem open_tuple {H : Type} {enc : TypeId × Value → H} {w : World} {base b0 : Nat} {sp : Nat → Bool} {held : Bool} {r : Reach} {v : Value} {d : DataW H} {ps : List MemPlace}
    (hval : Value.okWide Try.prog w r b0 73 v) (h : DataW.Trod enc Try.prog w base sp held 73 v d ps) :
    ∃ (a0 : Int) (a1 : Int) (a2 : Int) (a3 : Int) (a4 : Int) (a5 : Int), v = .agg #[.int .i64 a0, .int .i64 a1, .int .i64 a2, .int .i64 a3, .int .i64 a4, .int .i64 a5] ∧ (Lit.int .i64 a0).wf = true ∧ (Lit.int .i64 a1).wf = true ∧ (Lit.int .i64 a2).wf = true ∧ (Lit.int .i64 a3).wf = true ∧ (Lit.int .i64 a4).wf = true ∧ (Lit.int .i64 a5).wf = true := by
  obtain ⟨cs, rfl, hsz⟩ := okWide_struct Try.underlying73 hval
  obtain ⟨fuel, hf⟩ := h
  obtain ⟨xs, n, rfl, _, hl, hx, hall⟩ := DataW.trod_struct Try.underlying73 hf
  have hc : Try.prog.cellsOf 73 = 6 := by kernel_rfl
  have hci : Try.prog.cellsOf 2 = 1 := by kernel_rfl
  obtain ⟨l⟩ := cs
  rw [hc] at hsz
  obtain ⟨c0, c1, c2, c3, c4, c5, rfl⟩ := list_of_tuple l hsz
  clear hl hf hval
  have hX : ∀ i, i < 6 → ∃ x, xs[i]? = some x := fun i hi => ⟨xs[i]'(by rw [hx]; exact hi), List.getElem?_eq_getElem _⟩
  have t0 : DataW.trod enc Try.prog w base sp held n 2 [c0] = xs[0]? := by
    have g : DataW.trod enc Try.prog w base sp held n 2 (List.take (Try.prog.cellsOf 2) (List.drop 0 [c0, c1, c2, c3, c4, c5])) = xs[0]? := hall 0 _ rfl
    rw [hci] at g
    exact g
  obtain ⟨x0, e0⟩ := hX 0 (by omega)
  rw [e0] at t0
  obtain ⟨a0, q0, _, w0⟩ := DataW.trod_int Try.underlying2 t0
  obtain rfl : c0 = .int .i64 a0 := by simpa using q0
  have t1 : DataW.trod enc Try.prog w base sp held n 2 [c1] = xs[1]? := by
    have g : DataW.trod enc Try.prog w base sp held n 2 (List.take (Try.prog.cellsOf 2) (List.drop 1 [.int .i64 a0, c1, c2, c3, c4, c5])) = xs[1]? := hall 1 _ rfl
    rw [hci] at g
    exact g
  obtain ⟨x1, e1⟩ := hX 1 (by omega)
  rw [e1] at t1
  obtain ⟨a1, q1, _, w1⟩ := DataW.trod_int Try.underlying2 t1
  obtain rfl : c1 = .int .i64 a1 := by simpa using q1
  have t2 : DataW.trod enc Try.prog w base sp held n 2 [c2] = xs[2]? := by
    have g : DataW.trod enc Try.prog w base sp held n 2 (List.take (Try.prog.cellsOf 2) (List.drop 2 [.int .i64 a0, .int .i64 a1, c2, c3, c4, c5])) = xs[2]? := hall 2 _ rfl
    rw [hci] at g
    exact g
  obtain ⟨x2, e2⟩ := hX 2 (by omega)
  rw [e2] at t2
  obtain ⟨a2, q2, _, w2⟩ := DataW.trod_int Try.underlying2 t2
  obtain rfl : c2 = .int .i64 a2 := by simpa using q2
  have t3 : DataW.trod enc Try.prog w base sp held n 2 [c3] = xs[3]? := by
    have g : DataW.trod enc Try.prog w base sp held n 2 (List.take (Try.prog.cellsOf 2) (List.drop 3 [.int .i64 a0, .int .i64 a1, .int .i64 a2, c3, c4, c5])) = xs[3]? := hall 3 _ rfl
    rw [hci] at g
    exact g
  obtain ⟨x3, e3⟩ := hX 3 (by omega)
  rw [e3] at t3
  obtain ⟨a3, q3, _, w3⟩ := DataW.trod_int Try.underlying2 t3
  obtain rfl : c3 = .int .i64 a3 := by simpa using q3
  have t4 : DataW.trod enc Try.prog w base sp held n 2 [c4] = xs[4]? := by
    have g : DataW.trod enc Try.prog w base sp held n 2 (List.take (Try.prog.cellsOf 2) (List.drop 4 [.int .i64 a0, .int .i64 a1, .int .i64 a2, .int .i64 a3, c4, c5])) = xs[4]? := hall 4 _ rfl
    rw [hci] at g
    exact g
  obtain ⟨x4, e4⟩ := hX 4 (by omega)
  rw [e4] at t4
  obtain ⟨a4, q4, _, w4⟩ := DataW.trod_int Try.underlying2 t4
  obtain rfl : c4 = .int .i64 a4 := by simpa using q4
  have t5 : DataW.trod enc Try.prog w base sp held n 2 [c5] = xs[5]? := by
    have g : DataW.trod enc Try.prog w base sp held n 2 (List.take (Try.prog.cellsOf 2) (List.drop 5 [.int .i64 a0, .int .i64 a1, .int .i64 a2, .int .i64 a3, .int .i64 a4, c5])) = xs[5]? := hall 5 _ rfl
    rw [hci] at g
    exact g
  obtain ⟨x5, e5⟩ := hX 5 (by omega)
  rw [e5] at t5
  obtain ⟨a5, q5, _, w5⟩ := DataW.trod_int Try.underlying2 t5
  obtain rfl : c5 = .int .i64 a5 := by simpa using q5
  exact ⟨a0, a1, a2, a3, a4, a5, rfl, w0, w1, w2, w3, w4, w5⟩
end Go.Proofs.Ytpcflfhblomcoaa
end

section
namespace Go.Proofs.Ytpcflfhblomcoaa
open Go.ChangeShapes Go.WideShapes Go.ChangeAt Go.RowKit
open Go.ChangeMaps (open_string shut_string)
set_option linter.unusedVariables false

theorem ret_intS {k : IntKind} {a b : Int} (h : a = b) : Ending.returned (.int k a) = .returned (.int k b) := by rw [h]
theorem val_intS {k : IntKind} {a b : Int} (h : a = b) : Value.int k a = .int k b := by rw [h]
theorem hidS {q : Prop} (h : q) : Hid q := h
theorem w64_small {n : Nat} (h : n < 256) : wrap64 (n : Int) = n := by unfold wrap64; omega
end Go.Proofs.Ytpcflfhblomcoaa
end
