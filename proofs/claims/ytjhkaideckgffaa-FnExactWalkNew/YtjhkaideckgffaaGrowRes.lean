/- Proved here: a law on regions that draw their order and store into blocks of the call's own (no program of its own): a class of worlds lasts, each operation's value keeps what is said of it. -/
import Derived.Test.YtjhkaideckgffaaGrowSet
namespace Go.Proofs.Ytjhkaideckgffaa
open Go.ChangeShapes Go.WideShapes Go.ChangeAt Go.RowKit
set_option linter.unusedVariables false
set_option linter.unusedSimpArgs false

section
variable {P : Program} {ops : Array Oper} {Q : Exit → Act → World → Prop} {a0 : Act}

theorem RanS.mono {B B' : Value → World → Prop} (h : ∀ u w, B u w → B' u w) : ∀ {r : Result Next}, RanS P B r → RanS P B' r
  | .ok (.value u) w', k => h u w' k
  | .ok .skip w', k => h undef w' k
  | .ok (.enter f args) w', k => Calls.mono k fun e w'' q => by obtain ⟨u, e, q⟩ := q; exact ⟨u, e, h u w'' q⟩
  | .halt _ _, k => k
/-- what is asked of each operation -/
def StepA (P : Program) (ops : Array Oper) (C : World → Prop) (R : World → World → Prop) (A : Nat → Value → World → Prop) (a0 : Act) (i : Nat) (o : Oper) : Prop :=
  o.guard = none ∧ ∀ (v : Nat → Value) (w : World) (ρ : Operand → Value), C w →
    (∀ c, ρ (.const c) = c) → (∀ f, ρ (.func f) = .func (.func f) #[] #[]) →
    (∀ (j : Nat) (d : Tmp), j < i → (ops[j]?).bind (·.dst) = some d → ρ (.tmp d) = v j) → (∀ t : Tmp, (∀ j, j < i → (ops[j]?).bind (·.dst) ≠ some t) → ρ (.tmp t) = a0.eval (.tmp t)) →
    (∀ e ∈ o.after, Region.binds .any e = true → A e.on (v e.on) w) →
    RanS P (fun u w' => C w' ∧ R w w' ∧ A i u w') ((execOp ρ o).run P w)
theorem stepsFrom_mono {F G : Nat → Oper → Prop} (h : ∀ i o, F i o → G i o) : ∀ (l : List Oper) (k : Nat), StepsFrom F k l → StepsFrom G k l
  | [], _, _ => trivial
  | o :: l, k, hk => ⟨h _ _ hk.1, stepsFrom_mono h l (k + 1) hk.2⟩
/-- THE LAW -/
theorem grow_res {id : Nat} {w0 : World} (C : World → Prop) (R : World → World → Prop) (A : Nat → Value → World → Prop) (hm : P.follows .mixedOrders = true) (hT : tidyB ops a0.tmps.size = true)
    (hA : ∀ i v w w', A i v w → R w w' → A i v w') (hC : C w0.drew)
    (hstep : StepsFrom (StepA P ops C R A a0) 0 ops.toList)
    (hend : ∀ (v : Nat → Value) (w : World), C w → (∀ i, i < ops.size → A i (v i) w) → Q .normal (upto ops v a0 ops.size) w) :
    (Code.region id ops true).wp P Q a0 w0 := by
  refine growS (fun L v w => C w ∧ ∀ i, L i → A i (v i) w) hm hT (fun L v hn => ⟨hC, fun i h => (hn i h).elim⟩) (stepsFrom_mono ?_ _ _ hstep) (fun L v w hc hall => hend v w hc.1 fun i hi => hc.2 i (hall i hi))
  intro i o ⟨hg, h⟩
  refine ⟨hg, fun L v w ρ hc hn hd kc kf ks ki => ?_⟩
  refine RanS.mono ?_ (h v w ρ hc.1 kc kf ks ki (fun e he hb => hc.2 _ (hd e he hb)))
  intro u w' ⟨h1, h2, h3⟩
  refine ⟨h1, fun j hj => ?_⟩
  by_cases e : j = i
  · subst e; simpa using h3
  · simp only [if_neg e]
    exact hA _ _ _ _ (hc.2 j (hj.resolve_right e)) h2
end
end Go.Proofs.Ytjhkaideckgffaa
