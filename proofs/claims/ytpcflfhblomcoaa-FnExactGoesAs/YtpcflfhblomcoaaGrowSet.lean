/- Proved here: a law on regions that draw their order (no program of its own): a class of worlds that knows which operations have come up, and with which values, lasts to the region's end, in whatever order. -/
import Derived.Test.YtpcflfhblomcoaaGrow
namespace Go.Proofs.Ytpcflfhblomcoaa
open Go.ChangeShapes Go.WideShapes Go.ChangeAt Go.RowKit
set_option linter.unusedVariables false
set_option linter.unusedSimpArgs false

section
variable {P : Program} {ops : Array Oper} {Q : Exit → Act → World → Prop} {a0 : Act} {C : (Nat → Prop) → (Nat → Value) → World → Prop}

/-- what an operation has come to -/
def RanS (P : Program) (B : Value → World → Prop) : Result Next → Prop
  | .ok (.value u) w' => B u w'
  | .ok .skip w' => B undef w'
  | .ok (.enter f args) w' => Calls P f args w' fun e w'' => ∃ u, e = .returned u ∧ B u w''
  | _ => False
/-- what is asked of each operation, whatever has come up ahead of it -/
def StepS (P : Program) (ops : Array Oper) (C : (Nat → Prop) → (Nat → Value) → World → Prop) (a0 : Act) (i : Nat) (o : Oper) : Prop :=
  o.guard = none ∧ ∀ (L : Nat → Prop) (v : Nat → Value) (w : World) (ρ : Operand → Value), C L v w → ¬ L i → (∀ e ∈ o.after, Region.binds .any e = true → L e.on) →
    (∀ c, ρ (.const c) = c) → (∀ f, ρ (.func f) = .func (.func f) #[] #[]) →
    (∀ (j : Nat) (d : Tmp), j < i → (ops[j]?).bind (·.dst) = some d → ρ (.tmp d) = v j) → (∀ t : Tmp, (∀ j, j < i → (ops[j]?).bind (·.dst) ≠ some t) → ρ (.tmp t) = a0.eval (.tmp t)) →
    RanS P (fun u w' => C (fun j => L j ∨ j = i) (fun j => if j = i then u else v j) w') ((execOp ρ o).run P w)

theorem growS_any (T : Tidy ops a0.tmps.size) (hstep : ∀ (i : Nat) (o : Oper), ops[i]? = some o → StepS P ops C a0 i o)
    (hend : ∀ (L : Nat → Prop) (v : Nat → Value) (w : World), C L v w → (∀ i, i < ops.size → L i) → Q .normal (upto ops v a0 ops.size) w) :
    ∀ (fuel : Nat) (listed : Array Bool) (a : Act) (w : World) (v : Nat → Value), listed.size = ops.size → left ops listed ≤ fuel →
      InF ops v a0 (fun i => listed.getD i false = true) a → (∀ (j : Nat) (oj : Oper), ops[j]? = some oj → listed.getD j false = true → ∀ e ∈ oj.after, Region.binds .any e = true → listed.getD e.on false = true) →
      C (fun i => listed.getD i false = true) v w → wpAny P .any ops (NoPanic Q) fuel listed a w := by
  intro fuel
  have fin : ∀ (listed : Array Bool) (a : Act) (w : World) (v : Nat → Value), listed.size = ops.size → InF ops v a0 (fun i => listed.getD i false = true) a →
      C (fun i => listed.getD i false = true) v w → Region.ready .any ops listed = [] → NoPanic Q .normal a w := by
    intro listed a w v hsz hF hC hr
    have hall := ready_all T hr
    have h1 := hend _ v w hC (fun i hi => hall i hi hsz)
    have h2 : InF ops v a0 (fun i => listed.getD i false = true) (upto ops v a0 ops.size) := (InF.upto T ops.size (Nat.le_refl _)).congr (fun i hi => ⟨fun _ => hall i hi hsz, fun _ => hi⟩) (fun _ _ => rfl)
    rw [hF.ext h2]
    exact h1
  induction fuel with
  | zero =>
    intro listed a w v hsz hfuel hF hcl hC
    have hr : Region.ready .any ops listed = [] := by
      cases hq : Region.ready .any ops listed with
      | nil => rfl
      | cons x xs =>
        have hx : x ∈ Region.ready .any ops listed := by rw [hq]; exact List.mem_cons_self
        obtain ⟨h0, o, ho, _⟩ := mem_ready.1 hx
        have hlt : x < ops.size := (Array.getElem?_eq_some_iff.1 ho).1
        have : x ∈ (List.range ops.size).filter fun i => !listed.getD i true := List.mem_filter.2 ⟨List.mem_range.2 hlt, by rw [h0]; rfl⟩
        have h3 : ((List.range ops.size).filter fun i => !listed.getD i true).length = 0 := by unfold left at hfuel; omega
        rw [List.length_eq_zero_iff.1 h3] at this
        cases this
    exact ⟨hr, fin listed a w v hsz hF hC hr⟩
  | succ fuel ih =>
    intro listed a w v hsz hfuel hF hcl hC
    refine ⟨fin listed a w v hsz hF hC, fun i hi => ?_⟩
    obtain ⟨h0, o, ho, hdep⟩ := mem_ready.1 hi
    have hlt : i < ops.size := (Array.getElem?_eq_some_iff.1 ho).1
    have hltl : i < listed.size := by omega
    have hL : ¬ listed.getD i false = true := by simp [Array.getD, hltl] at h0 ⊢; exact h0
    have hU := InF.upto (v := v) T i (by omega)
    have hag := fun t ht => InF.agree T hF hU ho hL hdep hcl t ht
    have hset : ∀ j, (listed.setIfInBounds i true).getD j false = true ↔ (listed.getD j false = true ∨ j = i) := by
      intro j
      by_cases e : j = i
      · subst e; simp [Array.getD, hltl]
      · simp only [Array.getD_eq_getD_getElem?, Array.getElem?_setIfInBounds_ne (Ne.symm e), e, or_false]
    have hsetF : (fun j => (listed.setIfInBounds i true).getD j false = true) = (fun j => listed.getD j false = true ∨ j = i) := funext fun j => propext (hset j)
    have next : ∀ u w', C (fun j => listed.getD j false = true ∨ j = i) (fun j => if j = i then u else v j) w' → wpAny P .any ops (NoPanic Q) fuel (listed.setIfInBounds i true) (a.put o.dst u) w' := by
      intro u w' hC'
      refine ih _ _ _ (fun j => if j = i then u else v j) (by simpa using hsz) ?_ ?_ ?_ (by rw [hsetF]; exact hC')
      · have : left ops (listed.setIfInBounds i true) < left ops listed := filter_less (p := fun j => !listed.getD j true) (q := fun j => !(listed.setIfInBounds i true).getD j true) (j := i) (by
            intro j hj
            by_cases e : j = i
            · subst e; simp [Array.getD, hltl] at hj
            · simpa only [Array.getD_eq_getD_getElem?, Array.getElem?_setIfInBounds_ne (Ne.symm e)] using hj) (by simp only [h0]; rfl) (by simp [Array.getD, hltl]) _ (List.mem_range.2 hlt)
        omega
      · exact (hF.put T ho u).congr (fun j _ => (hset j).symm) (fun _ _ => rfl)
      · intro j oj hj hlj e he hb
        rcases (hset j).1 hlj with h | rfl
        · exact (hset _).2 (.inl (hcl j oj hj h e he hb))
        · rw [ho] at hj
          injection hj with hj
          subst hj
          exact (hset _).2 (.inl (hdep e he hb))
    unfold wpOp
    simp only [ho]
    obtain ⟨hg, hst⟩ := hstep i o ho
    have hw : Region.wanted o (yielded ops a.tmps) = true := by simp [Region.wanted, hg]
    simp only [hw, if_true]
    refine .inl (wp_carry (exec_agree (fun cs b => T.sel i o cs b ho) hag) (hU.defers.trans hF.defers.symm) (fun d hd => by rw [hU.size]; exact T.lt i o d ho hd) ?_)
    have hr := hst (fun j => listed.getD j false = true) v w (upto ops v a0 i).eval hC hL (fun e he hb => hdep e he hb) (fun _ => rfl) (fun _ => rfl) (fun j d hj hjd => by
        obtain ⟨oj, hoj, hdj⟩ := Option.bind_eq_some_iff.1 hjd
        simp only [Act.eval, Array.getD_eq_getD_getElem?, hU.done j oj d hoj hdj hj, Option.getD_some]) (fun t ht => by
        have := hU.rest t (fun j oj hoj hj hdj => ht j hj (by rw [hoj]; exact hdj))
        simp only [Act.eval, Array.getD_eq_getD_getElem?, this])
    have e1 : ∀ u, (⟨(a.put o.dst (match o.dst with | some d => ((upto ops v a0 i).put o.dst u).tmps.getD d undef | none => undef)).tmps, ((upto ops v a0 i).put o.dst u).defers⟩ : Act) = a.put o.dst u := by
      intro u
      cases hod : o.dst with
      | none => simp only [Act.put]; rw [hU.defers, ← hF.defers]
      | some d =>
        have h1 : ((upto ops v a0 i).tmps.setIfInBounds d u).getD d undef = u := by
          rw [Array.getD_eq_getD_getElem?, Array.getElem?_setIfInBounds_self_of_lt (by rw [hU.size]; exact T.lt i o d ho hod)]; rfl
        simp only [Act.put, h1]
        rw [hU.defers, ← hF.defers]
    unfold Oper.wp
    generalize (execOp (upto ops v a0 i).eval o).run P w = r at hr
    cases r with
    | halt x w' => exact hr.elim
    | ok n w' =>
      cases n <;> simp only [RanS] at hr <;> simp only [Oper.upon]
      case value u => exact Eq.mpr (congrArg (fun z => wpAny P .any ops (NoPanic Q) fuel (listed.setIfInBounds i true) z w') (e1 u)) (next u w' hr)
      case skip => exact Eq.mpr (congrArg (fun z => wpAny P .any ops (NoPanic Q) fuel (listed.setIfInBounds i true) z w') (e1 undef)) (next undef w' hr)
      case enter f args =>
        refine Calls.mono hr fun e w'' q => ?_
        obtain ⟨u, rfl, h1⟩ := q
        exact Eq.mpr (congrArg (fun z => wpAny P .any ops (NoPanic Q) fuel (listed.setIfInBounds i true) z w'') (e1 u)) (next u w'' h1)

/-- THE LAW: a region that draws its order, over a class that knows what has come up -/
theorem growS {id : Nat} {w0 : World} (C : (Nat → Prop) → (Nat → Value) → World → Prop) (hm : P.follows .mixedOrders = true) (hT : tidyB ops a0.tmps.size = true) (hC : ∀ L v, (∀ i, ¬ L i) → C L v w0.drew)
    (hstep : StepsFrom (StepS P ops C a0) 0 ops.toList)
    (hend : ∀ (L : Nat → Prop) (v : Nat → Value) (w : World), C L v w → (∀ i, i < ops.size → L i) → Q .normal (upto ops v a0 ops.size) w) :
    (Code.region id ops true).wp P Q a0 w0 := by
  refine wp_region_noPanic (wp_region_any hm ?_)
  have T := tidy_of hT
  have hrep : ∀ i, (Array.replicate ops.size false).getD i false = true → False := by
    intro i h
    rw [Array.getD_eq_getD_getElem?] at h
    by_cases hi : i < ops.size
    · simp [hi] at h
    · simp [Array.getElem?_eq_none (show (Array.replicate ops.size false).size ≤ i by simp; omega)] at h
  refine growS_any T (fun i o ho => by
    have := steps_from ops.toList 0 hstep i o (by simpa using ho)
    rwa [Nat.zero_add] at this) hend ops.size _ a0 _ (fun _ => undef) (by simp) ?_ ⟨rfl, rfl, fun i _ _ _ _ h => (hrep i h).elim, fun _ _ => rfl⟩ (fun j _ _ h => (hrep j h).elim) (hC _ _ (fun i h => hrep i h))
  unfold left
  exact Nat.le_trans (List.length_filter_le _ _) (by simp)
end
end Go.Proofs.Ytpcflfhblomcoaa
