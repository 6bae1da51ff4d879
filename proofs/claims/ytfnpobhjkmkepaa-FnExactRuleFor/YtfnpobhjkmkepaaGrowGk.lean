/- Proved here: a law on regions of guarded operations that draw their order (no program of its own): what is said of each value may hang on memory. -/
import Derived.Test.YtfnpobhjkmkepaaGrow
import Derived.Test.YtfnpobhjkmkepaaKinds
namespace Go.Proofs.Ytfnpobhjkmkepaa
open Go.ChangeShapes Go.WideShapes Go.ChangeAt Go.RowKit
set_option linter.unusedVariables false
set_option linter.unusedSimpArgs false

section
variable {P : Program} {ops : Array Oper} {Q : Exit → Act → World → Prop} {a0 : Act}
/-- 'grow_guarded' with predicates for kinds -/
theorem grow_gk {id : Nat} {w0 : World} (n : Nat) (ks : List Kp) (hn : ops.size = n) (hm : P.follows .mixedOrders = true) (hT : tidyB ops a0.tmps.size = true) (hl : AllLastB ks)
    (hstep : StepsFrom (StepW P ops (fun W => Below w0.heap.size w0 W) (fun w w' => Below w.heap.size w w') (kpOf ks) a0) 0 ops.toList)
    (hend : ∀ (v : Nat → Value) (w : World), Below w0.heap.size w0 w → (∀ i, i < n → kpOf ks i (v i) w) → Q .normal (upto ops v a0 n) w) :
    (Code.region id ops true).wp P Q a0 w0 := by
  subst hn
  exact grow_region (fun W => Below w0.heap.size w0 W) (fun w w' => Below w.heap.size w w') (kpOf ks) hm hT (fun i v w w' h hb => all_lastB ks hl i v w w' h hb) (Below.refl _ _).drew (fun i o ho => step_of_w (tidy_of hT) ho (by
    have := steps_from ops.toList 0 hstep i o (by simpa using ho)
    rwa [Nat.zero_add] at this)) hend
end
end Go.Proofs.Ytfnpobhjkmkepaa
