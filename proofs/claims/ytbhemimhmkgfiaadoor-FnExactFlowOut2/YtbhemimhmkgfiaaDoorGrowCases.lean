/- Proved here: a region whose cases go on alike (a bridge; no program of its own). -/
import Derived.Test.YtbhemimhmkgfiaaDoorGrow
namespace Go.Proofs.YtbhemimhmkgfiaaDoor
open Go.ChangeShapes Go.WideShapes Go.ChangeAt Go.RowKit
set_option linter.unusedVariables false

/-- what an operation waits for is known -/
theorem kdj {A : Nat → Value → World → Prop} {v : Nat → Value} {w : World} {l : Array Edge} (kd : ∀ e ∈ l, Region.binds .any e = true → A e.on (v e.on) w) (j : Nat) (h : (l.toList.any fun e => Region.binds .any e && e.on == j) = true) : A j (v j) w := by
  obtain ⟨e, he, hq⟩ := List.any_eq_true.1 h
  rw [Bool.and_eq_true] at hq
  have ej : e.on = j := by simpa using hq.2
  have := kd e (by simpa using he) hq.1
  rwa [ej] at this
theorem mem0 {α : Type} {a : Array α} {x : α} (h : a[0]? = some x) : x ∈ a := Array.mem_of_getElem? h
theorem mem1 {α : Type} {a : Array α} {x : α} (h : a[1]? = some x) : x ∈ a := Array.mem_of_getElem? h
theorem mem2 {α : Type} {a : Array α} {x : α} (h : a[2]? = some x) : x ∈ a := Array.mem_of_getElem? h
theorem mem3 {α : Type} {a : Array α} {x : α} (h : a[3]? = some x) : x ∈ a := Array.mem_of_getElem? h
theorem mem4 {α : Type} {a : Array α} {x : α} (h : a[4]? = some x) : x ∈ a := Array.mem_of_getElem? h
theorem mem5 {α : Type} {a : Array α} {x : α} (h : a[5]? = some x) : x ∈ a := Array.mem_of_getElem? h
/-- what follows a region is shown once, for all values but the last, and the cases of the region then -/
theorem grow_cases {P : Program} {ops : Array Oper} {Q : Exit → Act → World → Prop} {a0 : Act} {id : Nat} {w0 : World} (n : Nat) (b : Value)
    (fin : ∀ (v : Nat → Value) (w : World), Below w0.heap.size w0 w → v (n - 1) = b → Q .normal (upto ops v a0 n) w)
    (h : (∀ (v : Nat → Value) (w : World), Below w0.heap.size w0 w → v (n - 1) = b → Q .normal (upto ops v a0 n) w) → (Code.region id ops true).wp P Q a0 w0) :
    (Code.region id ops true).wp P Q a0 w0 := h fin
end Go.Proofs.YtbhemimhmkgfiaaDoor
