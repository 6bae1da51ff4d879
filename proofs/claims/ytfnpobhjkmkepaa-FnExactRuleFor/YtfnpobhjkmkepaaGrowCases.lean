/- Proved here: a region whose cases go on alike (a bridge; no program of its own). -/
import Derived.Test.YtfnpobhjkmkepaaGrow
namespace Go.Proofs.Ytfnpobhjkmkepaa
open Go.ChangeShapes Go.WideShapes Go.ChangeAt Go.RowKit
set_option linter.unusedVariables false

theorem mem0 {α : Type} {a : Array α} {x : α} (h : a[0]? = some x) : x ∈ a := Array.mem_of_getElem? h
theorem mem1 {α : Type} {a : Array α} {x : α} (h : a[1]? = some x) : x ∈ a := Array.mem_of_getElem? h
theorem mem2 {α : Type} {a : Array α} {x : α} (h : a[2]? = some x) : x ∈ a := Array.mem_of_getElem? h
theorem mem3 {α : Type} {a : Array α} {x : α} (h : a[3]? = some x) : x ∈ a := Array.mem_of_getElem? h
theorem mem4 {α : Type} {a : Array α} {x : α} (h : a[4]? = some x) : x ∈ a := Array.mem_of_getElem? h
theorem mem5 {α : Type} {a : Array α} {x : α} (h : a[5]? = some x) : x ∈ a := Array.mem_of_getElem? h
/-- what follows a region is shown once, for all values but the last, and the cases of the region then -/
theorem grow_cases {P : Program} {ops : Array Oper} {Q : Exit → Act → World → Prop} {a0 : Act} {id : Nat} {w0 : World} (n : Nat) (b : Value)
    (fin : ∀ (v : Nat → Value) (w : World), Below w0.heap.size w0 w → v (n - 1) = b → Q .normal (upto ops v a0 n) w)
    (h : (∀ (v : Nat → Value) (w : World), Below w0.heap.size w0 w → v (n - 1) = b → Q .normal (upto ops v a0 n) w) → (Code.region id ops true).wp P Q a0 w0) :
    (Code.region id ops true).wp P Q a0 w0 := h fin
end Go.Proofs.Ytfnpobhjkmkepaa
