/- Proved here: the laws' own helpers on rules: toRule, and eqRule of two that are the same; all old memory stays (no conditions). · Proved here: the laws' own eqRule of two rules that are the same; all old memory stays (no conditions). · Proved here: a region whose cases go on alike (a bridge; no program of its own). -/
import Derived.Test.YtpcflfhblomcoaaRuleMath
import Derived.Test.YtpcflfhblomcoaaAll10
import Derived.Test.YtpcflfhblomcoaaBlk
import Derived.Test.YtpcflfhblomcoaaGrow
section
namespace Go.Proofs.Ytpcflfhblomcoaa
open Go.ChangeShapes Go.WideShapes Go.ChangeAt Go.RowKit
set_option linter.unusedVariables false

set_option maxHeartbeats 1000000 in
theorem toRule_any (r : Rl) (w : World) :
    Calls Try.prog 100 #[.agg #[.int .i64 r.kind, .int .i64 r.proto, .int .i64 r.net, .int .i64 r.bits, .int .i64 r.goal, .int .i64 r.low, .int .i64 r.high]] w fun e w' => e = .returned (.agg #[.int .i64 r.kind, .int .i64 r.proto, .int .i64 r.net, .int .i64 r.bits, .int .i64 r.goal, .int .i64 r.low, .int .i64 r.high]) ∧ Below w.heap.size w w' := by
  go_enter Try.func100, Try.ntmps100
  go_wp2
  exact bodyPost_ret (v := .agg #[.int .i64 r.kind, .int .i64 r.proto, .int .i64 r.net, .int .i64 r.bits, .int .i64 r.goal, .int .i64 r.low, .int .i64 r.high]) (by simp [results, Try.results100, go_sem]) rfl ⟨rfl, by go_grown⟩
end Go.Proofs.Ytpcflfhblomcoaa
end

section
namespace Go.Proofs.Ytpcflfhblomcoaa
open Go.ChangeShapes Go.WideShapes Go.ChangeAt Go.RowKit
set_option linter.unusedVariables false

set_option maxHeartbeats 1000000 in
theorem eqRule_any (r : Rl) (w : World) :
    Calls Try.prog 102 #[.agg #[.int .i64 r.kind, .int .i64 r.proto, .int .i64 r.net, .int .i64 r.bits, .int .i64 r.goal, .int .i64 r.low, .int .i64 r.high], .agg #[.int .i64 r.kind, .int .i64 r.proto, .int .i64 r.net, .int .i64 r.bits, .int .i64 r.goal, .int .i64 r.low, .int .i64 r.high]] w fun e w' => e = .returned (.bool true) ∧ Below w.heap.size w w' := by
  go_enter Try.func102, Try.ntmps102
  go_wp2
  go_ret
  exact ⟨rfl, by go_grown⟩
end Go.Proofs.Ytpcflfhblomcoaa
end

section
namespace Go.Proofs.Ytpcflfhblomcoaa
open Go.ChangeShapes Go.WideShapes Go.ChangeAt Go.RowKit
set_option linter.unusedVariables false

/-- what an operation waits for is known -/
theorem kdj {A : Nat → Value → World → Prop} {v : Nat → Value} {w : World} {l : Array Edge} (kd : ∀ e ∈ l, Region.binds .any e = true → A e.on (v e.on) w) (j : Nat) (h : (l.toList.any fun e => Region.binds .any e && e.on == j) = true) : A j (v j) w := by
  obtain ⟨e, he, hq⟩ := List.any_eq_true.1 h
  rw [Bool.and_eq_true] at hq
  have ej : e.on = j := by simpa using hq.2
  have := kd e (by simpa using he) hq.1
  rwa [ej] at this
theorem mem0 {α : Type} {a : Array α} {x : α} (h : a[0]? = some x) : x ∈ a := Array.mem_of_getElem? h
theorem mem1 {α : Type} {a : Array α} {x : α} (h : a[1]? = some x) : x ∈ a := Array.mem_of_getElem? h
theorem mem2 {α : Type} {a : Array α} {x : α} (h : a[2]? = some x) : x ∈ a := Array.mem_of_getElem? h
theorem mem3 {α : Type} {a : Array α} {x : α} (h : a[3]? = some x) : x ∈ a := Array.mem_of_getElem? h
theorem mem4 {α : Type} {a : Array α} {x : α} (h : a[4]? = some x) : x ∈ a := Array.mem_of_getElem? h
theorem mem5 {α : Type} {a : Array α} {x : α} (h : a[5]? = some x) : x ∈ a := Array.mem_of_getElem? h
/-- what follows a region is shown once, for all values but the last, and the cases of the region then -/
theorem grow_cases {P : Program} {ops : Array Oper} {Q : Exit → Act → World → Prop} {a0 : Act} {id : Nat} {w0 : World} (n : Nat) (b : Value)
    (fin : ∀ (v : Nat → Value) (w : World), Below w0.heap.size w0 w → v (n - 1) = b → Q .normal (upto ops v a0 n) w)
    (h : (∀ (v : Nat → Value) (w : World), Below w0.heap.size w0 w → v (n - 1) = b → Q .normal (upto ops v a0 n) w) → (Code.region id ops true).wp P Q a0 w0) :
    (Code.region id ops true).wp P Q a0 w0 := h fin
end Go.Proofs.Ytpcflfhblomcoaa
end
