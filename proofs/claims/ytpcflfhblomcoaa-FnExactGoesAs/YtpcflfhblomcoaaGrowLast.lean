/- Proved here: laws on regions that draw their order and end in a store that waits for all else (no program of their own): the class of worlds knows what has come up; of two operations it is known how they stand to each other. -/
import Derived.Test.YtpcflfhblomcoaaGrowSet
import Derived.Test.YtpcflfhblomcoaaAll15
namespace Go.Proofs.Ytpcflfhblomcoaa
open Go.ChangeShapes Go.WideShapes Go.ChangeAt Go.RowKit
set_option linter.unusedVariables false
set_option linter.unusedSimpArgs false

section
variable {P : Program} {ops : Array Oper} {Q : Exit → Act → World → Prop} {a0 : Act} {C : (Nat → Prop) → (Nat → Value) → World → Prop}

theorem growS_last_any {m : Nat} {last : Oper} (T : Tidy ops a0.tmps.size) (hsz : ops.size = m + 1) (hl : ops[m]? = some last) (hlg : last.guard = none) (hld : ∀ j, j < m → ∃ j' oj', j < j' ∧ j' ≤ m ∧ ops[j']? = some oj' ∧ ∃ e ∈ oj'.after, Region.binds .any e = true ∧ e.on = j)
    (hstep : ∀ (i : Nat) (o : Oper), i < m → ops[i]? = some o → StepS P ops C a0 i o)
    (hend : ∀ (L : Nat → Prop) (v : Nat → Value) (w : World), C L v w → (∀ i, i < m → L i) → Oper.wp P last (upto ops v a0 m) w (fun a' w' => Q .normal a' w') (NoPanic Q)) :
    ∀ (fuel : Nat) (listed : Array Bool) (a : Act) (w : World) (v : Nat → Value), listed.size = ops.size → left ops listed ≤ fuel → listed.getD m false = false →
      InF ops v a0 (fun i => listed.getD i false = true) a → (∀ (j : Nat) (oj : Oper), ops[j]? = some oj → listed.getD j false = true → ∀ e ∈ oj.after, Region.binds .any e = true → listed.getD e.on false = true) →
      C (fun i => listed.getD i false = true) v w → wpAny P .any ops (NoPanic Q) fuel listed a w := by
  intro fuel
  have notdone : ∀ listed : Array Bool, listed.size = ops.size → listed.getD m false = false → Region.ready .any ops listed = [] → False := by
    intro listed h1 h2 h3
    have := ready_all T h3 m (by omega) h1
    rw [h2] at this
    cases this
  induction fuel with
  | zero =>
    intro listed a w v hls hfuel hm hF hcl hC
    exfalso
    have : m ∈ (List.range ops.size).filter fun i => !listed.getD i true := List.mem_filter.2 ⟨List.mem_range.2 (by omega), by
      have : m < listed.size := by omega
      simp [Array.getD, this] at hm ⊢; exact hm⟩
    have h3 : ((List.range ops.size).filter fun i => !listed.getD i true).length = 0 := by unfold left at hfuel; omega
    rw [List.length_eq_zero_iff.1 h3] at this
    cases this
  | succ fuel ih =>
    intro listed a w v hls hfuel hm hF hcl hC
    refine ⟨fun h => (notdone listed hls hm h).elim, fun i hi => ?_⟩
    obtain ⟨h0, o, ho, hdep⟩ := mem_ready.1 hi
    have hlt : i < ops.size := (Array.getElem?_eq_some_iff.1 ho).1
    have hltl : i < listed.size := by omega
    have hL : ¬ listed.getD i false = true := by simp [Array.getD, hltl] at h0 ⊢; exact h0
    have hU := InF.upto (v := v) T i (by omega)
    have hag := fun t ht => InF.agree T hF hU ho hL hdep hcl t ht
    have hset : ∀ j, (listed.setIfInBounds i true).getD j false = true ↔ (listed.getD j false = true ∨ j = i) := by
      intro j
      by_cases e : j = i
      · subst e; simp [Array.getD, hltl]
      · simp only [Array.getD_eq_getD_getElem?, Array.getElem?_setIfInBounds_ne (Ne.symm e), e, or_false]
    have hless : left ops (listed.setIfInBounds i true) < left ops listed := filter_less (p := fun j => !listed.getD j true) (q := fun j => !(listed.setIfInBounds i true).getD j true) (j := i) (by
        intro j hj
        by_cases e : j = i
        · subst e; simp [Array.getD, hltl] at hj
        · simpa only [Array.getD_eq_getD_getElem?, Array.getElem?_setIfInBounds_ne (Ne.symm e)] using hj) (by simp only [h0]; rfl) (by simp [Array.getD, hltl]) _ (List.mem_range.2 hlt)
    unfold wpOp
    simp only [ho]
    by_cases him : i = m
    · subst him
      rw [hl] at ho
      injection ho with ho
      subst ho
      have hall' : ∀ d j, i - j ≤ d → j < i → listed.getD j false = true := by
        intro d
        induction d with
        | zero => intro j h1 h2; omega
        | succ d ihd =>
          intro j h1 h2
          obtain ⟨j', oj', hjj, hjm, hoj, e, he, hb, hon⟩ := hld j h2
          rw [← hon]
          by_cases hji : j' = i
          · subst hji
            rw [hl] at hoj
            injection hoj with hoj
            subst hoj
            exact hdep e he hb
          · exact hcl j' oj' hoj (ihd j' (by omega) (by omega)) e he hb
      have hall : ∀ j, j < i → listed.getD j false = true := fun j hj => hall' _ j (Nat.le_refl _) hj
      have hlast := hend _ v w hC (fun j hj => hall j hj)
      have hw : Region.wanted last (yielded ops a.tmps) = true := by simp [Region.wanted, hlg]
      rw [if_pos hw]
      have hsame : a = upto ops v a0 i := hF.ext (hU.congr (fun j hj => ⟨fun q => hall j q, fun q => by
        by_cases e : j < i
        · exact e
        · have : j = i := by omega
          subst this
          exact (hL q).elim⟩) (fun _ _ => rfl))
      rw [hsame]
      refine .inl (Oper.wp_mono (fun a' w' hq => ?_) hlast)
      have hr : Region.ready .any ops (listed.setIfInBounds i true) = [] := by
        cases hq2 : Region.ready .any ops (listed.setIfInBounds i true) with
        | nil => rfl
        | cons x xs =>
          have hx : x ∈ Region.ready .any ops (listed.setIfInBounds i true) := by rw [hq2]; exact List.mem_cons_self
          obtain ⟨g0, ox, hox, _⟩ := mem_ready.1 hx
          have hxlt : x < ops.size := (Array.getElem?_eq_some_iff.1 hox).1
          have : (listed.setIfInBounds i true).getD x false = true := (hset x).2 (by
            by_cases e : x = i
            · exact .inr e
            · exact .inl (hall x (by omega)))
          have hxl : x < (listed.setIfInBounds i true).size := by simp; omega
          simp only [Array.getD, hxl, dif_pos] at this g0
          rw [this] at g0
          cases g0
      cases fuel with
      | zero => exact ⟨hr, hq⟩
      | succ f => exact ⟨fun _ => hq, fun j hj => by rw [hr] at hj; cases hj⟩
    · have hilt : i < m := by omega
      have hsetF : (fun j => (listed.setIfInBounds i true).getD j false = true) = (fun j => listed.getD j false = true ∨ j = i) := funext fun j => propext (hset j)
      have next : ∀ u w', C (fun j => listed.getD j false = true ∨ j = i) (fun j => if j = i then u else v j) w' → wpAny P .any ops (NoPanic Q) fuel (listed.setIfInBounds i true) (a.put o.dst u) w' := by
        intro u w' hC'
        refine ih _ _ _ (fun j => if j = i then u else v j) (by simpa using hls) (by omega) (by simp only [Array.getD_eq_getD_getElem?, Array.getElem?_setIfInBounds_ne him] at hm ⊢; exact hm) ?_ ?_ (by rw [hsetF]; exact hC')
        · exact (hF.put T ho u).congr (fun j _ => (hset j).symm) (fun _ _ => rfl)
        · intro j oj hj hlj e he hb
          rcases (hset j).1 hlj with h | rfl
          · exact (hset _).2 (.inl (hcl j oj hj h e he hb))
          · rw [ho] at hj
            injection hj with hj
            subst hj
            exact (hset _).2 (.inl (hdep e he hb))
      obtain ⟨hg, hst⟩ := hstep i o hilt ho
      have hw : Region.wanted o (yielded ops a.tmps) = true := by simp [Region.wanted, hg]
      simp only [hw, if_true]
      refine .inl (wp_carry (exec_agree (fun cs b => T.sel i o cs b ho) hag) (hU.defers.trans hF.defers.symm) (fun d hd => by rw [hU.size]; exact T.lt i o d ho hd) ?_)
      have hr := hst (fun j => listed.getD j false = true) v w (upto ops v a0 i).eval hC hL (fun e he hb => hdep e he hb) (fun _ => rfl) (fun _ => rfl) (fun j d hj hjd => by
          obtain ⟨oj, hoj, hdj⟩ := Option.bind_eq_some_iff.1 hjd
          simp only [Act.eval, Array.getD_eq_getD_getElem?, hU.done j oj d hoj hdj hj, Option.getD_some]) (fun t ht => by
          have := hU.rest t (fun j oj hoj hj hdj => ht j hj (by rw [hoj]; exact hdj))
          simp only [Act.eval, Array.getD_eq_getD_getElem?, this])
      have e1 : ∀ u, (⟨(a.put o.dst (match o.dst with | some d => ((upto ops v a0 i).put o.dst u).tmps.getD d undef | none => undef)).tmps, ((upto ops v a0 i).put o.dst u).defers⟩ : Act) = a.put o.dst u := by
        intro u
        cases hod : o.dst with
        | none => simp only [Act.put]; rw [hU.defers, ← hF.defers]
        | some d =>
          have h1 : ((upto ops v a0 i).tmps.setIfInBounds d u).getD d undef = u := by
            rw [Array.getD_eq_getD_getElem?, Array.getElem?_setIfInBounds_self_of_lt (by rw [hU.size]; exact T.lt i o d ho hod)]; rfl
          simp only [Act.put, h1]
          rw [hU.defers, ← hF.defers]
      unfold Oper.wp
      generalize (execOp (upto ops v a0 i).eval o).run P w = r at hr
      cases r with
      | halt x w' => exact hr.elim
      | ok n w' =>
        cases n <;> simp only [RanS] at hr <;> simp only [Oper.upon]
        case value u => exact Eq.mpr (congrArg (fun z => wpAny P .any ops (NoPanic Q) fuel (listed.setIfInBounds i true) z w') (e1 u)) (next u w' hr)
        case skip => exact Eq.mpr (congrArg (fun z => wpAny P .any ops (NoPanic Q) fuel (listed.setIfInBounds i true) z w') (e1 undef)) (next undef w' hr)
        case enter f args =>
          refine Calls.mono hr fun e w'' q => ?_
          obtain ⟨u, rfl, h1⟩ := q
          exact Eq.mpr (congrArg (fun z => wpAny P .any ops (NoPanic Q) fuel (listed.setIfInBounds i true) z w'') (e1 u)) (next u w'' h1)

/-- over a class of worlds, the last operation alone told by itself -/
theorem growS_last {id : Nat} {w0 : World} (C : (Nat → Prop) → (Nat → Value) → World → Prop) (m : Nat) (last : Oper) (hsz : ops.size = m + 1) (hl : ops[m]? = some last) (hlg : last.guard = none) (hlB : lastB ops m = true) (hm : P.follows .mixedOrders = true) (hT : tidyB ops a0.tmps.size = true)
    (hC : ∀ L v, (∀ i, ¬ L i) → C L v w0.drew)
    (hstep : StepsFrom (StepS P ops C a0) 0 (ops.toList.take m))
    (hend : ∀ (L : Nat → Prop) (v : Nat → Value) (w : World), C L v w → (∀ i, i < m → L i) → Oper.wp P last (upto ops v a0 m) w (fun a' w' => Q .normal a' w') (NoPanic Q)) :
    (Code.region id ops true).wp P Q a0 w0 := by
  refine wp_region_noPanic (wp_region_any hm ?_)
  have T := tidy_of hT
  have hrep : ∀ i, (Array.replicate ops.size false).getD i false = true → False := by
    intro i h
    rw [Array.getD_eq_getD_getElem?] at h
    by_cases hi : i < ops.size
    · simp [hi] at h
    · simp [Array.getElem?_eq_none (show (Array.replicate ops.size false).size ≤ i by simp; omega)] at h
  refine growS_last_any T hsz hl hlg (fun j hj => ?_) (fun i o hi ho => ?_) hend ops.size _ a0 _ (fun _ => undef) (by simp) ?_ ?_ ⟨rfl, rfl, fun i _ _ _ _ h => (hrep i h).elim, fun _ _ => rfl⟩ (fun j _ _ h => (hrep j h).elim) (hC _ _ (fun i h => hrep i h))
  · have := List.all_eq_true.1 hlB j (List.mem_range.2 hj)
    obtain ⟨i, hi, h3⟩ := List.any_eq_true.1 this
    simp only [Bool.and_eq_true, decide_eq_true_eq] at h3
    obtain ⟨h4, h5⟩ := h3
    cases hoi : ops[i]? with
    | none => rw [hoi] at h5; cases h5
    | some oi =>
      rw [hoi] at h5
      obtain ⟨e, he, h6⟩ := Array.any_eq_true'.1 h5
      simp only [Bool.and_eq_true, beq_iff_eq] at h6
      exact ⟨i, oi, h4, by have := List.mem_range.1 hi; omega, hoi, e, he, h6.1, h6.2⟩
  · have := steps_from (ops.toList.take m) 0 hstep i o (by rw [List.getElem?_take, if_pos hi]; simpa using ho)
    rwa [Nat.zero_add] at this
  · unfold left
    exact Nat.le_trans (List.length_filter_le _ _) (by simp)
  · cases hq : (Array.replicate ops.size false).getD m false with
    | false => rfl
    | true => exact (hrep m hq).elim

/-- what an operation is asked: its kind, and how it stands to the other of the two -/
def StepP (P : Program) (ops : Array Oper) (w0 : World) (ks : List Kp) (jc jx : Nat) (Rl : Value → Value → World → Prop) (a0 : Act) (i : Nat) (o : Oper) : Prop :=
  o.guard = none ∧ ∀ (v : Nat → Value) (w : World) (ρ : Operand → Value), Below w0.heap.size w0 w → (∀ c, ρ (.const c) = c) → (∀ f, ρ (.func f) = .func (.func f) #[] #[]) →
    (∀ (j : Nat) (d : Tmp), j < i → (ops[j]?).bind (·.dst) = some d → ρ (.tmp d) = v j) → (∀ t : Tmp, (∀ j, j < i → (ops[j]?).bind (·.dst) ≠ some t) → ρ (.tmp t) = a0.eval (.tmp t)) →
    (∀ e ∈ o.after, Region.binds .any e = true → kpOf ks e.on (v e.on) w) →
    RanS P (fun u w' => Below w0.heap.size w0 w' ∧ Below w.heap.size w w' ∧ kpOf ks i u w' ∧ (i = jc → kpOf ks jx (v jx) w → Rl u (v jx) w') ∧ (i = jx → kpOf ks jc (v jc) w → Rl (v jc) u w')) ((execOp ρ o).run P w)
theorem stepsFrom_monoL {F G : Nat → Oper → Prop} (h : ∀ i o, F i o → G i o) : ∀ (l : List Oper) (k : Nat), StepsFrom F k l → StepsFrom G k l
  | [], _, _ => trivial
  | o :: l, k, hk => ⟨h _ _ hk.1, stepsFrom_monoL h l (k + 1) hk.2⟩
theorem RanS.monoL {B B' : Value → World → Prop} (h : ∀ u w, B u w → B' u w) : ∀ {r : Result Next}, RanS P B r → RanS P B' r
  | .ok (.value u) w', k => h u w' k
  | .ok .skip w', k => h undef w' k
  | .ok (.enter f args) w', k => Calls.mono k fun e w'' q => by obtain ⟨u, e, q⟩ := q; exact ⟨u, e, h u w'' q⟩
  | .halt _ _, k => k
/-- kinds, and of two operations how they stand to each other -/
theorem grow_pair {id : Nat} {w0 : World} (m : Nat) (last : Oper) (ks : List Kp) (jc jx : Nat) (hne : jc ≠ jx) (Rl : Value → Value → World → Prop) (hsz : ops.size = m + 1) (hl : ops[m]? = some last) (hlg : last.guard = none) (hlB : lastB ops m = true) (hm : P.follows .mixedOrders = true) (hT : tidyB ops a0.tmps.size = true)
    (hlast : AllLastB ks) (hRl : ∀ a b W W', Rl a b W → Below W.heap.size W W' → Rl a b W') (hjc : jc < m) (hjx : jx < m)
    (hstep : StepsFrom (StepP P ops w0 ks jc jx Rl a0) 0 (ops.toList.take m))
    (hend : ∀ (v : Nat → Value) (w : World), Below w0.heap.size w0 w → (∀ i, i < m → kpOf ks i (v i) w) → Rl (v jc) (v jx) w → Oper.wp P last (upto ops v a0 m) w (fun a' w' => Q .normal a' w') (NoPanic Q)) :
    (Code.region id ops true).wp P Q a0 w0 := by
  refine growS_last (fun L v W => Below w0.heap.size w0 W ∧ (∀ i, L i → kpOf ks i (v i) W) ∧ (L jc → L jx → Rl (v jc) (v jx) W)) m last hsz hl hlg hlB hm hT (fun L v hn => ⟨(Below.refl _ _).drew, fun i h => (hn i h).elim, fun h => (hn _ h).elim⟩) (stepsFrom_monoL ?_ _ _ hstep) (fun L v w hc hall => hend v w hc.1 (fun i hi => hc.2.1 i (hall i hi)) (hc.2.2 (hall _ hjc) (hall _ hjx)))
  intro i o ⟨hg, h⟩
  refine ⟨hg, fun L v w ρ hc hn hd kc kf ksp ki => ?_⟩
  refine RanS.monoL ?_ (h v w ρ hc.1 kc kf ksp ki (fun e he hb => hc.2.1 _ (hd e he hb)))
  intro u w' ⟨h1, h2, h3, h4, h5⟩
  refine ⟨h1, fun j hj => ?_, fun hc1 hx1 => ?_⟩
  · by_cases e : j = i
    · subst e; simpa using h3
    · simp only [if_neg e]
      exact all_lastB ks hlast _ _ _ _ (hc.2.1 j (hj.resolve_right e)) h2
  · by_cases e1 : jc = i
    · by_cases e2 : jx = i
      · exact absurd (e1.trans e2.symm) hne
      · simp only [if_pos e1, if_neg e2]
        exact h4 e1.symm (hc.2.1 jx (hx1.resolve_right e2))
    · by_cases e2 : jx = i
      · simp only [if_neg e1, if_pos e2]
        exact h5 e2.symm (hc.2.1 jc (hc1.resolve_right e1))
      · simp only [if_neg e1, if_neg e2]
        exact hRl _ _ _ _ (hc.2.2 (hc1.resolve_right e1) (hx1.resolve_right e2)) h2
theorem setCells_heapL : ∀ (l : List Value) (w : World) (b o i : Nat), i ≠ b → (w.setCells b o l).heap[i]? = w.heap[i]?
  | [], w, b, o, i, _ => rfl
  | v :: l, w, b, o, i, h => by
    have := setCells_heapL l (w.setCell ⟨b, o, none⟩ v) b (o + 1) i h
    have h2 := Below.heap_setCell w ⟨b, o, none⟩ v i h
    exact (show ((w.setCell ⟨b, o, none⟩ v).setCells b (o + 1) l).heap[i]? = _ from this).trans h2
/-- .. where the last operation stores a struct into a block that one of the two has made -/
theorem grow_pair_store {id : Nat} {w0 : World} (m : Nat) (last : Oper) (ks : List Kp) (jc jx : Nat) (hne : jc ≠ jx) (Rl : Value → Value → World → Prop) (jy : Nat) (dx dy : Tmp) (ty t : TypeId) (old : Array Value) (n : Nat) (hsz : ops.size = m + 1) (hl : ops[m]? = some last) (hlg : last.guard = none) (hlB : lastB ops m = true) (hm : P.follows .mixedOrders = true) (hT : tidyB ops a0.tmps.size = true)
    (hlast : AllLastB ks) (hRl : ∀ a b W W', Rl a b W → Below W.heap.size W W' → Rl a b W') (hjc : jc < m) (hjx : jx < m) (hjy : jy < m)
    (ho : last.op = .store ty (.tmp dx) (.tmp dy)) (hdl : last.dst = none) (hx : (ops[jx]?).bind (·.dst) = some dx) (hy : (ops[jy]?).bind (·.dst) = some dy)
    (hkx : ∀ v W, kpOf ks jx v W → ∃ B, v = .pointer (some ⟨B, 0, none⟩) ∧ w0.heap.size ≤ B ∧ W.heap[B]? = some (.cells old t)) (hky : ∀ v W, kpOf ks jy v W → ∃ new, v = .agg new ∧ new.size = n ∧ new.all (·.oneCell') = true) (hon : old.size = n) (hi : (P.info? ty).map (·.size) = some n)
    (hstep : StepsFrom (StepP P ops w0 ks jc jx Rl a0) 0 (ops.toList.take m))
    (hend : ∀ (v : Nat → Value) (w w' : World) (B : Nat) (new : Array Value), Below w0.heap.size w0 w → (∀ i, i < m → kpOf ks i (v i) w) → Rl (v jc) (v jx) w → v jx = .pointer (some ⟨B, 0, none⟩) → w0.heap.size ≤ B → v jy = .agg new → w'.heap[B]? = some (.cells new t) → (∀ k, k ≠ B → w'.heap[k]? = w.heap[k]?) → (∀ D, D ≤ B → D ≤ w.heap.size → Below D w w') → Q .normal (upto ops v a0 m) w') :
    (Code.region id ops true).wp P Q a0 w0 := by
  refine grow_pair m last ks jc jx hne Rl hsz hl hlg hlB hm hT hlast hRl hjc hjx hstep (fun v w hC hall hr => ?_)
  have T := tidy_of hT
  have hU := InF.upto (v := v) T m (by omega)
  obtain ⟨B, e, hnB, hB⟩ := hkx _ _ (hall jx hjx)
  obtain ⟨new, e2, hsn, h1⟩ := hky _ _ (hall jy hjy)
  have ev : ∀ j d, j < m → (ops[j]?).bind (·.dst) = some d → (upto ops v a0 m).eval (.tmp d) = v j := fun j d hj hjd => by
    obtain ⟨oj, hoj, hdj⟩ := Option.bind_eq_some_iff.1 hjd
    simp only [Act.eval, Array.getD_eq_getD_getElem?, hU.done j oj d hoj hdj hj, Option.getD_some]
  have hth : w.there B 0 new.size := fun j hj => by
    refine ⟨?_, by simp [World.frozen?, hB]⟩
    have : j < old.size := by omega
    simp [World.cell?, hB, this]
  refine wp_store_mid ty (.tmp dx) (.tmp dy) ho B 0 new ((ev jx dx hjx hx).trans e) ((ev jy dy hjy hy).trans e2) hth (by rw [hsn]; exact hi) h1 ?_
  have hheap := setCells_heap new.toList w B 0 old t hB (by simp; omega)
  simp only [List.take_zero, List.nil_append, Array.toArray_toList] at hheap
  rw [hdl]
  exact hend v w _ B new hC hall hr e hnB e2 hheap (fun k hk => setCells_heapL _ _ _ _ _ hk) (fun D hD hD2 => Go.below_setCells hD _ _ _ (Below.refl _ _))
/-- .. where the last operation stores a struct into a block that is known -/
theorem grow_known_store {id : Nat} {w0 : World} (m : Nat) (last : Oper) (ks : List Kp) (jy : Nat) (dx dy : Tmp) (ty t : TypeId) (g : Nat) (old : Array Value) (n : Nat) (hsz : ops.size = m + 1) (hl : ops[m]? = some last) (hlg : last.guard = none) (hlB : lastB ops m = true) (hm : P.follows .mixedOrders = true) (hT : tidyB ops a0.tmps.size = true)
    (hlast : AllLastB ks) (hjy : jy < m) (h1m : 1 < m)
    (ho : last.op = .store ty (.tmp dx) (.tmp dy)) (hdl : last.dst = none) (hx : ∀ j, j < m → (ops[j]?).bind (·.dst) ≠ some dx) (hx0 : a0.eval (.tmp dx) = .pointer (some ⟨g, 0, none⟩)) (hy : (ops[jy]?).bind (·.dst) = some dy)
    (hg : w0.heap[g]? = some (.cells old t)) (hky : ∀ v W, kpOf ks jy v W → ∃ new, v = .agg new ∧ new.size = n ∧ new.all (·.oneCell') = true) (hon : old.size = n) (hi : (P.info? ty).map (·.size) = some n)
    (hstep : StepsFrom (StepP P ops w0 ks 0 1 (fun _ _ _ => True) a0) 0 (ops.toList.take m))
    (hend : ∀ (v : Nat → Value) (w w' : World) (new : Array Value), Below w0.heap.size w0 w → (∀ i, i < m → kpOf ks i (v i) w) → v jy = .agg new → w'.heap[g]? = some (.cells new t) → (∀ k, k ≠ g → w'.heap[k]? = w.heap[k]?) → (∀ D, D ≤ g → D ≤ w.heap.size → Below D w w') → Q .normal (upto ops v a0 m) w') :
    (Code.region id ops true).wp P Q a0 w0 := by
  refine grow_pair m last ks 0 1 (by decide) (fun _ _ _ => True) hsz hl hlg hlB hm hT hlast (fun _ _ _ _ _ _ => trivial) (by omega) h1m hstep (fun v w hC hall hr => ?_)
  have T := tidy_of hT
  have hU := InF.upto (v := v) T m (by omega)
  have hgl : g < w0.heap.size := (Array.getElem?_eq_some_iff.1 hg).1
  have hB : w.heap[g]? = some (.cells old t) := (hC.block g hgl).trans hg
  obtain ⟨new, e2, hsn, h1⟩ := hky _ _ (hall jy hjy)
  have ev : ∀ j d, j < m → (ops[j]?).bind (·.dst) = some d → (upto ops v a0 m).eval (.tmp d) = v j := fun j d hj hjd => by
    obtain ⟨oj, hoj, hdj⟩ := Option.bind_eq_some_iff.1 hjd
    simp only [Act.eval, Array.getD_eq_getD_getElem?, hU.done j oj d hoj hdj hj, Option.getD_some]
  have ex : (upto ops v a0 m).eval (.tmp dx) = .pointer (some ⟨g, 0, none⟩) := by
    have := hU.rest dx (fun j oj hoj hj hdj => hx j hj (by rw [hoj]; exact hdj))
    rw [← hx0]
    simp only [Act.eval, Array.getD_eq_getD_getElem?, this]
  have hth : w.there g 0 new.size := fun j hj => by
    refine ⟨?_, by simp [World.frozen?, hB]⟩
    have : j < old.size := by omega
    simp [World.cell?, hB, this]
  refine wp_store_mid ty (.tmp dx) (.tmp dy) ho g 0 new ex ((ev jy dy hjy hy).trans e2) hth (by rw [hsn]; exact hi) h1 ?_
  have hheap := setCells_heap new.toList w g 0 old t hB (by simp; omega)
  simp only [List.take_zero, List.nil_append, Array.toArray_toList] at hheap
  rw [hdl]
  exact hend v w _ new hC hall e2 hheap (fun k hk => setCells_heapL _ _ _ _ _ hk) (fun D hD hD2 => Go.below_setCells hD _ _ _ (Below.refl _ _))
/-- an int goes into a cell -/
theorem wp_store_one {op : Oper} {a : Act} {w : World} {K : Act → World → Prop} {Q : Exit → Act → World → Prop} (ty : TypeId) (x y : Operand) (ho : op.op = .store ty x y)
    (b o : Nat) (n : Int) (hx : a.eval x = .pointer (some ⟨b, o, none⟩)) (hy : a.eval y = .int .i64 n)
    (ht : w.there b o 1) (hi : (P.info? ty).map (·.size) = some 1)
    (h : K (a.put op.dst undef) (w.setCell ⟨b, o, none⟩ (.int .i64 n))) : op.wp P a w K Q := by
  have hrun : (storeVar ty ⟨b, o, none⟩ (.int .i64 n)).run P w = .ok () (w.setCell ⟨b, o, none⟩ (.int .i64 n)) := by
    have := run_storeCells_cells (P := P) b o [.int .i64 n] 0 w (fun j hj => by simpa using (ht j (by simpa using hj)).1) (fun j hj => by simpa using (ht j (by simpa using hj)).2) (fun v hv => by simp at hv; subst hv; rfl)
    cases hq : P.info? ty with
    | none => simp [hq] at hi
    | some i =>
      have hs : 1 = i.size := by simp [hq] at hi; omega
      simp only [Nat.add_zero] at this
      simp [storeVar, sizeOf, typeInfo, hq, Value.cells, ← hs, this, World.setCells]
  unfold Oper.wp execOp
  simp only [ho, hx, hy, Instr.storeAt, Instr.sureAddr, Sem.run_bind, Sem.run_pure, Result.andThen_ok, hrun]
  exact h
/-- .. where the last operation stores an int into a cell that is known -/
theorem grow_cell {id : Nat} {w0 : World} (m : Nat) (last : Oper) (ks : List Kp) (jx jy : Nat) (dx dy : Tmp) (ty t : TypeId) (g o : Nat) (n : Int) (cs : Array Value) (hsz : ops.size = m + 1) (hl : ops[m]? = some last) (hlg : last.guard = none) (hlB : lastB ops m = true) (hm : P.follows .mixedOrders = true) (hT : tidyB ops a0.tmps.size = true)
    (hlast : AllLastB ks) (h1m : 1 < m) (hjx : jx < m) (hjy : jy < m)
    (ho : last.op = .store ty (.tmp dx) (.tmp dy)) (hdl : last.dst = none) (hx : (ops[jx]?).bind (·.dst) = some dx) (hy : (ops[jy]?).bind (·.dst) = some dy)
    (hg : w0.heap[g]? = some (.cells cs t)) (hox : o < cs.size) (hkx : ∀ v W, kpOf ks jx v W → v = .pointer (some ⟨g, o, none⟩)) (hky : ∀ v W, kpOf ks jy v W → v = .int .i64 n) (hi : (P.info? ty).map (·.size) = some 1)
    (hstep : StepsFrom (StepP P ops w0 ks 0 1 (fun _ _ _ => True) a0) 0 (ops.toList.take m))
    (hend : ∀ (v : Nat → Value) (w : World), Below w0.heap.size w0 w → Q .normal (upto ops v a0 m) (w.setCell ⟨g, o, none⟩ (.int .i64 n))) :
    (Code.region id ops true).wp P Q a0 w0 := by
  refine grow_pair m last ks 0 1 (by decide) (fun _ _ _ => True) hsz hl hlg hlB hm hT hlast (fun _ _ _ _ _ _ => trivial) (by omega) h1m hstep (fun v w hC hall hr => ?_)
  have T := tidy_of hT
  have hU := InF.upto (v := v) T m (by omega)
  have hgl : g < w0.heap.size := (Array.getElem?_eq_some_iff.1 hg).1
  have hB : w.heap[g]? = some (.cells cs t) := (hC.block g hgl).trans hg
  have ev : ∀ j d, j < m → (ops[j]?).bind (·.dst) = some d → (upto ops v a0 m).eval (.tmp d) = v j := fun j d hj hjd => by
    obtain ⟨oj, hoj, hdj⟩ := Option.bind_eq_some_iff.1 hjd
    simp only [Act.eval, Array.getD_eq_getD_getElem?, hU.done j oj d hoj hdj hj, Option.getD_some]
  have hth : w.there g o 1 := fun j hj => by
    have e : j = 0 := by omega
    subst e
    refine ⟨?_, by simp [World.frozen?, hB]⟩
    simp [World.cell?, hB, hox]
  refine wp_store_one ty (.tmp dx) (.tmp dy) ho g o n ((ev jx dx hjx hx).trans (hkx _ _ (hall jx hjx))) ((ev jy dy hjy hy).trans (hky _ _ (hall jy hjy))) hth hi ?_
  rw [hdl]
  exact hend v w hC
end
end Go.Proofs.Ytpcflfhblomcoaa
