/- Proved here: a law on regions that draw their order (no program of its own): where each operation, in whatever world of a class, leaves a value of its own kind and a later world of the class, and where these kinds last, the region ends, in whatever order, with a value of its kind in each slot. -/
import Derived.Test.YtilajoafppplcaaRows
import Derived.WalkKit
import Derived.WalkSpells
import Derived.ProofKit
import Derived.OpenShut
import Derived.ShutString
import Derived.Handy
import Derived.Orders
import Derived.Deep.RegionHeld3
import Derived.Deep.MidRow
import Derived.Lib.LazyBuf
import Derived.Below
namespace Go.Proofs.Ytilajoafppplcaa
open Go.ChangeShapes Go.WideShapes Go.ChangeAt Go.RowKit
set_option linter.unusedVariables false

section
variable {P : Program} {ops : Array Oper}

/-- the frame behind the first operations, in the text's order, with values v -/
def upto (ops : Array Oper) (v : Nat → Value) (a0 : Act) : Nat → Act
  | 0 => a0
  | i + 1 => (upto ops v a0 i).put ((ops[i]?).bind (·.dst)) (v i)

/-- a frame in which just the operations of L have come up, with values v -/
structure InF (ops : Array Oper) (v : Nat → Value) (a0 : Act) (L : Nat → Prop) (a : Act) : Prop where
  defers : a.defers = a0.defers
  size : a.tmps.size = a0.tmps.size
  done : ∀ (i : Nat) (o : Oper) (d : Tmp), ops[i]? = some o → o.dst = some d → L i → a.tmps[d]? = some (v i)
  rest : ∀ (t : Tmp), (∀ (i : Nat) (o : Oper), ops[i]? = some o → L i → o.dst ≠ some t) → a.tmps[t]? = a0.tmps[t]?

/-- what is asked of a region's text -/
structure Tidy (ops : Array Oper) (n : Nat) : Prop where
  lt : ∀ (i : Nat) (o : Oper) (d : Tmp), ops[i]? = some o → o.dst = some d → d < n
  one : ∀ (i j : Nat) (oi oj : Oper) (d : Tmp), ops[i]? = some oi → ops[j]? = some oj → oi.dst = some d → oj.dst = some d → i = j
  sees : ∀ (i j : Nat) (oi oj : Oper) (d : Tmp), ops[i]? = some oi → ops[j]? = some oj → oj.dst = some d → d ∈ oi.looksAt ops →
    j = i ∨ (j < i ∧ ∃ e ∈ oi.after, Region.binds .any e = true ∧ e.on = j) ∨ (i < j ∧ ∃ e ∈ oj.after, Region.binds .any e = true ∧ e.on = i)
  back : ∀ (i : Nat) (o : Oper), ops[i]? = some o → ∀ e ∈ o.after, Region.binds .any e = true → e.on < i
  sel : ∀ (i : Nat) (o : Oper) cs b, ops[i]? = some o → o.op ≠ Op.select cs b

def notSelect : Op → Bool
  | .select _ _ => false
  | _ => true
def tidyB (ops : Array Oper) (n : Nat) : Bool :=
  (List.range ops.size).all fun i => match ops[i]? with
    | none => true
    | some oi => (match oi.dst with | some d => decide (d < n) | none => true) && notSelect oi.op && oi.after.all (fun e => !Region.binds .any e || decide (e.on < i)) &&
      (List.range ops.size).all fun j => match ops[j]? with
        | none => true
        | some oj => match oj.dst with
          | none => true
          | some d => (decide (i = j) || !(oi.dst == some d)) &&
            (!(oi.looksAt ops).contains d || decide (j = i) || (decide (j < i) && oi.after.any (fun e => Region.binds .any e && e.on == j)) || (decide (i < j) && oj.after.any (fun e => Region.binds .any e && e.on == i)))

theorem tidy_of {n : Nat} (h : tidyB ops n = true) : Tidy ops n := by
  have key : ∀ (i : Nat) (oi : Oper), ops[i]? = some oi → (match oi.dst with | some d => decide (d < n) | none => true) = true ∧ notSelect oi.op = true ∧ oi.after.all (fun e => !Region.binds .any e || decide (e.on < i)) = true ∧
      ∀ (j : Nat) (oj : Oper) (d : Tmp), ops[j]? = some oj → oj.dst = some d → (decide (i = j) || !(oi.dst == some d)) = true ∧
        (!(oi.looksAt ops).contains d || decide (j = i) || (decide (j < i) && oi.after.any (fun e => Region.binds .any e && e.on == j)) || (decide (i < j) && oj.after.any (fun e => Region.binds .any e && e.on == i))) = true := by
    intro i oi hi
    have hlt : i < ops.size := (Array.getElem?_eq_some_iff.1 hi).1
    have h1 := List.all_eq_true.1 h i (List.mem_range.2 hlt)
    simp only [hi, Bool.and_eq_true] at h1
    obtain ⟨⟨⟨ha, hb⟩, hc⟩, hd⟩ := h1
    refine ⟨ha, hb, hc, fun j oj d hj hdst => ?_⟩
    have hltj : j < ops.size := (Array.getElem?_eq_some_iff.1 hj).1
    have h2 := List.all_eq_true.1 hd j (List.mem_range.2 hltj)
    simp only [hj, hdst, Bool.and_eq_true] at h2
    exact h2
  refine ⟨?_, ?_, ?_, ?_, ?_⟩
  · intro i o d hi hd
    have := (key i o hi).1
    simpa [hd] using this
  · intro i j oi oj d hi hj hdi hdj
    have := ((key i oi hi).2.2.2 j oj d hj hdj).1
    simpa [hdi] using this
  · intro i j oi oj d hi hj hdj hlook
    have := ((key i oi hi).2.2.2 j oj d hj hdj).2
    have hc : (oi.looksAt ops).contains d = true := List.contains_iff_mem.2 hlook
    rw [hc] at this
    simp only [Bool.not_true, Bool.false_or, Bool.or_eq_true, Bool.and_eq_true, decide_eq_true_eq] at this
    rcases this with (h1 | ⟨h1, h2⟩) | ⟨h1, h2⟩
    · exact .inl h1
    · obtain ⟨e, he, h3⟩ := Array.any_eq_true'.1 h2
      simp only [Bool.and_eq_true, beq_iff_eq] at h3
      exact .inr (.inl ⟨h1, e, he, h3.1, h3.2⟩)
    · obtain ⟨e, he, h3⟩ := Array.any_eq_true'.1 h2
      simp only [Bool.and_eq_true, beq_iff_eq] at h3
      exact .inr (.inr ⟨h1, e, he, h3.1, h3.2⟩)
  · intro i o hi e he hb
    have := Array.all_eq_true'.1 (key i o hi).2.2.1 e he
    simpa [hb] using this
  · intro i o cs b hi hs
    have := (key i o hi).2.1
    rw [hs] at this
    cases this

theorem InF.put {v : Nat → Value} {a0 a : Act} {L : Nat → Prop} {i : Nat} {o : Oper} (T : Tidy ops a0.tmps.size) (h : InF ops v a0 L a) (hi : ops[i]? = some o) (u : Value) :
    InF ops (fun j => if j = i then u else v j) a0 (fun j => L j ∨ j = i) (a.put o.dst u) := by
  refine ⟨?_, ?_, ?_, ?_⟩
  · cases hd : o.dst <;> simp [Act.put, h.defers]
  · cases hd : o.dst <;> simp [Act.put, h.size]
  · intro j oj d hj hdj hL
    by_cases e : j = i
    · subst e
      rw [hi] at hj
      injection hj with hj
      subst hj
      simp only [if_true, Act.put, hdj]
      rw [Array.getElem?_setIfInBounds_self_of_lt (by rw [h.size]; exact T.lt _ _ _ hi hdj)]
    · have hLj : L j := hL.resolve_right e
      rw [if_neg e, ← h.done j oj d hj hdj hLj]
      cases hd : o.dst with
      | none => rfl
      | some d' =>
        have hne : d' ≠ d := fun q => e (T.one j i oj o d hj hi hdj (by rw [hd, q]))
        simp only [Act.put]
        rw [Array.getElem?_setIfInBounds_ne hne]
  · intro t ht
    rw [← h.rest t (fun k ok hk hLk => ht k ok hk (.inl hLk))]
    cases hd : o.dst with
    | none => rfl
    | some d' =>
      have hne : d' ≠ t := fun q => ht i o hi (.inr rfl) (by rw [hd, q])
      simp only [Act.put]
      rw [Array.getElem?_setIfInBounds_ne hne]

theorem InF.congr {v v' : Nat → Value} {a0 a : Act} {L L' : Nat → Prop} (h : InF ops v a0 L a) (hL : ∀ i, i < ops.size → (L i ↔ L' i)) (hv : ∀ i, L' i → v i = v' i) : InF ops v' a0 L' a := by
  have lt : ∀ {i : Nat} {o : Oper}, ops[i]? = some o → i < ops.size := fun hi => (Array.getElem?_eq_some_iff.1 hi).1
  exact ⟨h.defers, h.size, fun i o d hi hd hl => by rw [← hv i hl]; exact h.done i o d hi hd ((hL i (lt hi)).2 hl), fun t ht => h.rest t (fun i o hi hl => ht i o hi ((hL i (lt hi)).1 hl))⟩

theorem InF.upto {v : Nat → Value} {a0 : Act} (T : Tidy ops a0.tmps.size) : ∀ i, i ≤ ops.size → InF ops v a0 (fun j => j < i) (upto ops v a0 i)
  | 0, _ => ⟨rfl, rfl, fun _ _ _ _ _ h => absurd h (Nat.not_lt_zero _), fun _ _ => rfl⟩
  | i + 1, hi => by
    have ih := InF.upto (v := v) T i (by omega)
    have ho : ops[i]? = some ops[i] := Array.getElem?_eq_getElem (by omega)
    have h1 := ih.put T ho (v i)
    unfold Ytilajoafppplcaa.upto
    rw [ho]
    refine h1.congr (fun j _ => by omega) (fun j _ => ?_)
    by_cases e : j = i
    · rw [if_pos e, e]
    · rw [if_neg e]

theorem InF.ext {v : Nat → Value} {a0 a b : Act} {L : Nat → Prop} (h : InF ops v a0 L a) (k : InF ops v a0 L b) : a = b := by
  have e1 : a.defers = b.defers := h.defers.trans k.defers.symm
  have e2 : a.tmps = b.tmps := by
    apply Array.ext_getElem?
    intro t
    by_cases hw : ∃ (i : Nat) (o : Oper), ops[i]? = some o ∧ L i ∧ o.dst = some t
    · obtain ⟨i, o, hi, hl, hd⟩ := hw
      rw [h.done i o t hi hd hl, k.done i o t hi hd hl]
    · have hr : ∀ (i : Nat) (o : Oper), ops[i]? = some o → L i → o.dst ≠ some t := fun i o hi hl hd => hw ⟨i, o, hi, hl, hd⟩
      rw [h.rest t hr, k.rest t hr]
  cases a; cases b; simp_all

/-- what operation number i sees is the same in every frame in which it may come up -/
theorem InF.agree {v : Nat → Value} {a0 a b : Act} {L : Nat → Prop} {i : Nat} {oi : Oper} (T : Tidy ops a0.tmps.size) (h : InF ops v a0 L a) (k : InF ops v a0 (fun j => j < i) b) (hi : ops[i]? = some oi) (hL : ¬ L i)
    (hdep : ∀ e ∈ oi.after, Region.binds .any e = true → L e.on) (hcl : ∀ (j : Nat) (oj : Oper), ops[j]? = some oj → L j → ∀ e ∈ oj.after, Region.binds .any e = true → L e.on) (t : Tmp) (ht : t ∈ oi.looksAt ops) : a.tmps[t]? = b.tmps[t]? := by
  by_cases hw : ∃ (j : Nat) (oj : Oper), ops[j]? = some oj ∧ oj.dst = some t
  · obtain ⟨j, oj, hj, hd⟩ := hw
    rcases T.sees i j oi oj t hi hj hd ht with rfl | ⟨hlt, e, he, hb, hon⟩ | ⟨hlt, e, he, hb, hon⟩
    · rw [h.rest t (fun m om hm hLm hdm => hL (by rw [← T.one m j om oj t hm hj hdm hd]; exact hLm)), k.rest t (fun m om hm hLm hdm => by have := T.one m j om oj t hm hj hdm hd; omega)]
    · have hLj : L j := hon ▸ hdep e he hb
      rw [h.done j oj t hj hd hLj, k.done j oj t hj hd hlt]
    · have hLj : ¬ L j := fun q => hL (hon ▸ hcl j oj hj q e he hb)
      rw [h.rest t (fun m om hm hLm hdm => hLj (by rw [← T.one m j om oj t hm hj hdm hd]; exact hLm)), k.rest t (fun m om hm hLm hdm => by have := T.one m j om oj t hm hj hdm hd; omega)]
  · have hr : ∀ (L' : Nat → Prop) (m : Nat) (om : Oper), ops[m]? = some om → L' m → om.dst ≠ some t := fun _ m om hm _ hd => hw ⟨m, om, hm, hd⟩
    rw [h.rest t (hr L), k.rest t (hr _)]

theorem wanted_agree {o : Oper} {a b : Act} (h : ∀ t ∈ o.looksAt ops, a.tmps[t]? = b.tmps[t]?) : Region.wanted o (yielded ops a.tmps) = Region.wanted o (yielded ops b.tmps) := by
  unfold Region.wanted
  cases hg : o.guard with
  | none => rfl
  | some gw =>
    obtain ⟨g, want⟩ := gw
    have hy : yielded ops a.tmps g = yielded ops b.tmps g := by
      unfold yielded
      cases ht : (ops[g]?).bind (·.dst) with
      | none => rfl
      | some t =>
        have := h t (by simp [Oper.looksAt, hg, ht])
        simp only [Option.bind_some, this]
    simp only [hy]
theorem exec_agree {o : Oper} {a b : Act} (hs : ∀ cs b, o.op ≠ Op.select cs b) (h : ∀ t ∈ o.looksAt ops, a.tmps[t]? = b.tmps[t]?) : execOp a.eval o = execOp b.eval o :=
  execOp_congr o hs fun x hx => by
    cases x with
    | tmp t =>
      have := h t (List.mem_append_left _ (List.mem_filterMap.2 ⟨.tmp t, by simpa using hx, rfl⟩))
      simp only [Act.eval, Array.getD_eq_getD_getElem?, this]
    | _ => rfl

/-- one operation, told in the frame b, carried out in the frame a -/
theorem wp_carry {Q : Exit → Act → World → Prop} {o : Oper} {a b : Act} {w : World} {K : Act → World → Prop} (he : execOp a.eval o = execOp b.eval o) (hd : b.defers = a.defers) (hlt : ∀ d, o.dst = some d → d < b.tmps.size)
    (h : Oper.wp P o b w (fun b' w' => K ⟨(a.put o.dst (match o.dst with | some d => b'.tmps.getD d undef | none => undef)).tmps, b'.defers⟩ w') (NoPanic Q)) : Oper.wp P o a w K (NoPanic Q) := by
  have key : ∀ u, K ⟨(a.put o.dst (match o.dst with | some d => (b.put o.dst u).tmps.getD d undef | none => undef)).tmps, (b.put o.dst u).defers⟩ = K (a.put o.dst u) := by
    intro u
    cases ho : o.dst with
    | none => simp only [Act.put]; rw [hd]
    | some d =>
      have h1 : (b.tmps.setIfInBounds d u).getD d undef = u := by
        rw [Array.getD_eq_getD_getElem?, Array.getElem?_setIfInBounds_self_of_lt (hlt d ho)]; rfl
      simp only [Act.put, h1]
      rw [hd]
  unfold Oper.wp at *
  rw [he]
  generalize (execOp b.eval o).run P w = r at *
  cases r with
  | ok n w' =>
    cases n <;> simp only [Oper.upon] at h ⊢
    case value u => rw [key] at h; exact h
    case skip => rw [key] at h; exact h
    case defer d =>
      cases ho : o.dst with
      | none =>
        rw [ho] at h
        simp only [Act.put] at h ⊢
        rw [hd] at h
        exact h
      | some t =>
        rw [ho] at h
        have h1 : (b.tmps.setIfInBounds t undef).getD t undef = undef := by
          rw [Array.getD_eq_getD_getElem?, Array.getElem?_setIfInBounds_self_of_lt (hlt t ho)]; rfl
        simp only [Act.put, h1] at h ⊢
        rw [hd] at h
        exact h
    case enter f args =>
      refine Calls.mono h fun e w'' q => ?_
      cases e with
      | returned u => simp only at q ⊢; rw [key] at q; exact q
      | panicked c => exact q.elim
      | outgrown => exact q
    case row row args => exact Rows.mono h fun u w'' q => by rw [key] at q; exact q
  | halt x w' =>
    cases x <;> simp only [Oper.upon] at h ⊢
    case panic u => exact h.elim

theorem filter_less {p q : Nat → Bool} (h : ∀ i, q i = true → p i = true) {j : Nat} (hp : p j = true) (hq : q j = false) : ∀ l : List Nat, j ∈ l → (l.filter q).length < (l.filter p).length
  | [], hj => by cases hj
  | x :: l, hj => by
    have hle : ∀ l : List Nat, (l.filter q).length ≤ (l.filter p).length := by
      intro l
      induction l with
      | nil => exact Nat.le_refl _
      | cons y l ih =>
        by_cases hy : q y = true
        · rw [List.filter_cons_of_pos hy, List.filter_cons_of_pos (h y hy)]; simpa using ih
        · rw [List.filter_cons_of_neg hy]
          by_cases hy' : p y = true
          · rw [List.filter_cons_of_pos hy']; simp; omega
          · rw [List.filter_cons_of_neg hy']; exact ih
    rcases List.mem_cons.1 hj with rfl | hj
    · rw [List.filter_cons_of_pos hp, List.filter_cons_of_neg (by rw [hq]; simp)]
      have := hle l
      simp; omega
    · have ih := filter_less h hp hq l hj
      by_cases hy : q x = true
      · rw [List.filter_cons_of_pos hy, List.filter_cons_of_pos (h x hy)]; simpa using ih
      · rw [List.filter_cons_of_neg hy]
        by_cases hy' : p x = true
        · rw [List.filter_cons_of_pos hy']; simp; omega
        · rw [List.filter_cons_of_neg hy']; exact ih

/-- how many operations have not come up -/
def left (ops : Array Oper) (listed : Array Bool) : Nat := ((List.range ops.size).filter fun i => !listed.getD i true).length

theorem ready_all {listed : Array Bool} {n : Nat} (T : Tidy ops n) (h : Region.ready .any ops listed = []) : ∀ i, i < ops.size → listed.size = ops.size → listed.getD i false = true := by
  intro i
  induction i using Nat.strongRecOn with
  | ind i ih =>
    intro hi hsz
    cases hl : listed.getD i false with
    | true => rfl
    | false =>
      have ho : ops[i]? = some ops[i] := Array.getElem?_eq_getElem hi
      have hm : i ∈ Region.ready .any ops listed := mem_ready.2 ⟨by
        have : i < listed.size := by omega
        simp [Array.getD, this] at hl ⊢; exact hl, ops[i], ho, fun e he hb => ih e.on (T.back i _ ho e he hb) (by have := T.back i _ ho e he hb; omega) hsz⟩
      rw [h] at hm
      cases hm

variable {Q : Exit → Act → World → Prop} {C : World → Prop} {R : World → World → Prop} {A : Nat → Value → World → Prop} {a0 : Act}

/-- what is asked of each operation -/
def StepOf (P : Program) (ops : Array Oper) (Q : Exit → Act → World → Prop) (C : World → Prop) (R : World → World → Prop) (A : Nat → Value → World → Prop) (a0 : Act) (i : Nat) (o : Oper) : Prop :=
  ∀ (v : Nat → Value) (w : World), C w → (∀ e ∈ o.after, Region.binds .any e = true → A e.on (v e.on) w) → ∀ K : Act → World → Prop,
    (∀ u w', C w' → R w w' → A i u w' → K ((upto ops v a0 i).put o.dst u) w') →
    if Region.wanted o (yielded ops (upto ops v a0 i).tmps) = true then Oper.wp P o (upto ops v a0 i) w K (NoPanic Q) else R w w ∧ A i undef w

theorem grow_any (T : Tidy ops a0.tmps.size) (hA : ∀ i v w w', A i v w → R w w' → A i v w')
    (hstep : ∀ (i : Nat) (o : Oper), ops[i]? = some o → StepOf P ops Q C R A a0 i o)
    (hend : ∀ (v : Nat → Value) (w : World), C w → (∀ i, i < ops.size → A i (v i) w) → Q .normal (upto ops v a0 ops.size) w) :
    ∀ (fuel : Nat) (listed : Array Bool) (a : Act) (w : World) (v : Nat → Value), listed.size = ops.size → left ops listed ≤ fuel →
      InF ops v a0 (fun i => listed.getD i false = true) a → (∀ (j : Nat) (oj : Oper), ops[j]? = some oj → listed.getD j false = true → ∀ e ∈ oj.after, Region.binds .any e = true → listed.getD e.on false = true) →
      (∀ i, i < ops.size → listed.getD i false = true → A i (v i) w) → C w → wpAny P .any ops (NoPanic Q) fuel listed a w := by
  intro fuel
  have fin : ∀ (listed : Array Bool) (a : Act) (w : World) (v : Nat → Value), listed.size = ops.size → InF ops v a0 (fun i => listed.getD i false = true) a →
      (∀ i, i < ops.size → listed.getD i false = true → A i (v i) w) → C w → Region.ready .any ops listed = [] → NoPanic Q .normal a w := by
    intro listed a w v hsz hF hAll hC hr
    have hall := ready_all T hr
    have h1 := hend v w hC (fun i hi => hAll i hi (hall i hi hsz))
    have h2 : InF ops v a0 (fun i => listed.getD i false = true) (upto ops v a0 ops.size) := (InF.upto T ops.size (Nat.le_refl _)).congr (fun i hi => ⟨fun _ => hall i hi hsz, fun _ => hi⟩) (fun _ _ => rfl)
    rw [hF.ext h2]
    exact h1
  induction fuel with
  | zero =>
    intro listed a w v hsz hfuel hF hcl hAll hC
    have hr : Region.ready .any ops listed = [] := by
      cases hq : Region.ready .any ops listed with
      | nil => rfl
      | cons x xs =>
        have hx : x ∈ Region.ready .any ops listed := by rw [hq]; exact List.mem_cons_self
        obtain ⟨h0, o, ho, _⟩ := mem_ready.1 hx
        have hlt : x < ops.size := (Array.getElem?_eq_some_iff.1 ho).1
        have : x ∈ (List.range ops.size).filter fun i => !listed.getD i true := List.mem_filter.2 ⟨List.mem_range.2 hlt, by rw [h0]; rfl⟩
        have h3 : ((List.range ops.size).filter fun i => !listed.getD i true).length = 0 := by unfold left at hfuel; omega
        rw [List.length_eq_zero_iff.1 h3] at this
        cases this
    exact ⟨hr, fin listed a w v hsz hF hAll hC hr⟩
  | succ fuel ih =>
    intro listed a w v hsz hfuel hF hcl hAll hC
    refine ⟨fin listed a w v hsz hF hAll hC, fun i hi => ?_⟩
    obtain ⟨h0, o, ho, hdep⟩ := mem_ready.1 hi
    have hlt : i < ops.size := (Array.getElem?_eq_some_iff.1 ho).1
    have hltl : i < listed.size := by omega
    have hL : ¬ listed.getD i false = true := by simp [Array.getD, hltl] at h0 ⊢; exact h0
    have hU := InF.upto (v := v) T i (by omega)
    have hag := fun t ht => InF.agree T hF hU ho hL hdep hcl t ht
    have hset : ∀ j, (listed.setIfInBounds i true).getD j false = true ↔ (listed.getD j false = true ∨ j = i) := by
      intro j
      by_cases e : j = i
      · subst e; simp [Array.getD, hltl]
      · simp only [Array.getD_eq_getD_getElem?, Array.getElem?_setIfInBounds_ne (Ne.symm e), e, or_false]
    have next : ∀ u w', C w' → R w w' → A i u w' → wpAny P .any ops (NoPanic Q) fuel (listed.setIfInBounds i true) (a.put o.dst u) w' := by
      intro u w' hC' hR hAi
      refine ih _ _ _ (fun j => if j = i then u else v j) (by simpa using hsz) ?_ ?_ ?_ ?_ hC'
      · have : left ops (listed.setIfInBounds i true) < left ops listed := filter_less (p := fun j => !listed.getD j true) (q := fun j => !(listed.setIfInBounds i true).getD j true) (j := i) (by
            intro j hj
            by_cases e : j = i
            · subst e; simp [Array.getD, hltl] at hj
            · simpa only [Array.getD_eq_getD_getElem?, Array.getElem?_setIfInBounds_ne (Ne.symm e)] using hj) (by simp only [h0]; rfl) (by simp [Array.getD, hltl]) _ (List.mem_range.2 hlt)
        omega
      · exact (hF.put T ho u).congr (fun j _ => (hset j).symm) (fun _ _ => rfl)
      · intro j oj hj hlj e he hb
        rcases (hset j).1 hlj with h | rfl
        · exact (hset _).2 (.inl (hcl j oj hj h e he hb))
        · rw [ho] at hj
          injection hj with hj
          subst hj
          exact (hset _).2 (.inl (hdep e he hb))
      · intro j hj hlj
        by_cases e : j = i
        · subst e; simpa using hAi
        · have : listed.getD j false = true := ((hset j).1 hlj).resolve_right e
          simp only [e, if_false]
          exact hA _ _ _ _ (hAll j hj this) hR
    unfold wpOp
    simp only [ho]
    have hst := hstep i o ho v w hC (fun e he hb => hAll e.on (by have := T.back i o ho e he hb; omega) (hdep e he hb))
    rw [wanted_agree hag]
    cases hw : Region.wanted o (yielded ops (upto ops v a0 i).tmps) with
    | true =>
      simp only [if_true]
      refine .inl (wp_carry (exec_agree (fun cs b => T.sel i o cs b ho) hag) (hU.defers.trans hF.defers.symm) (fun d hd => by rw [hU.size]; exact T.lt i o d ho hd) ?_)
      have := hst (fun b' w' => wpAny P .any ops (NoPanic Q) fuel (listed.setIfInBounds i true) ⟨(a.put o.dst (match o.dst with | some d => b'.tmps.getD d undef | none => undef)).tmps, b'.defers⟩ w') (by
        intro u w' hC' hR hAi
        have hn := next u w' hC' hR hAi
        have e1 : (⟨(a.put o.dst (match o.dst with | some d => ((upto ops v a0 i).put o.dst u).tmps.getD d undef | none => undef)).tmps, ((upto ops v a0 i).put o.dst u).defers⟩ : Act) = a.put o.dst u := by
          cases hod : o.dst with
          | none => simp only [Act.put]; rw [hU.defers, ← hF.defers]
          | some d =>
            have h1 : ((upto ops v a0 i).tmps.setIfInBounds d u).getD d undef = u := by
              rw [Array.getD_eq_getD_getElem?, Array.getElem?_setIfInBounds_self_of_lt (by rw [hU.size]; exact T.lt i o d ho hod)]; rfl
            simp only [Act.put, h1]
            rw [hU.defers, ← hF.defers]
        rw [e1]
        exact hn)
      simpa only [hw, if_true] using this
    | false =>
      simp only [Bool.false_eq_true, if_false]
      have := hst (fun _ _ => True) (fun _ _ _ _ _ => trivial)
      simp only [hw, Bool.false_eq_true, if_false] at this
      exact next undef w hC this.1 this.2

/-- THE LAW: a region that draws its order, each operation told once, in the text's order -/
theorem grow_region {id : Nat} {w0 : World} (C : World → Prop) (R : World → World → Prop) (A : Nat → Value → World → Prop) (hm : P.follows .mixedOrders = true) (hT : tidyB ops a0.tmps.size = true) (hA : ∀ i v w w', A i v w → R w w' → A i v w') (hC : C w0.drew)
    (hstep : ∀ (i : Nat) (o : Oper), ops[i]? = some o → StepOf P ops Q C R A a0 i o)
    (hend : ∀ (v : Nat → Value) (w : World), C w → (∀ i, i < ops.size → A i (v i) w) → Q .normal (upto ops v a0 ops.size) w) :
    (Code.region id ops true).wp P Q a0 w0 := by
  refine wp_region_noPanic (wp_region_any hm ?_)
  have T := tidy_of hT
  have hrep : ∀ i, (Array.replicate ops.size false).getD i false = true → False := by
    intro i h
    rw [Array.getD_eq_getD_getElem?] at h
    by_cases hi : i < ops.size
    · simp [hi] at h
    · simp [Array.getElem?_eq_none (show (Array.replicate ops.size false).size ≤ i by simp; omega)] at h
  refine grow_any T hA hstep hend ops.size _ a0 _ (fun _ => undef) (by simp) ?_ ⟨rfl, rfl, fun i _ _ _ _ h => (hrep i h).elim, fun _ _ => rfl⟩ (fun j _ _ h => (hrep j h).elim) (fun i _ h => (hrep i h).elim) hC
  unfold left
  exact Nat.le_trans (List.length_filter_le _ _) (by simp)


/-- what an operation has come to -/
def Ran (P : Program) (C : World → Prop) (R : World → World → Prop) (B : Value → World → Prop) (w : World) : Result Next → Prop
  | .ok (.value u) w' => C w' ∧ R w w' ∧ B u w'
  | .ok (.enter f args) w' => Calls P f args w' fun e w'' => ∃ u, e = .returned u ∧ C w'' ∧ R w w'' ∧ B u w''
  | _ => False
/-- what is asked of each operation, whatever the frame: what its operands hold is told -/
def StepU (P : Program) (ops : Array Oper) (C : World → Prop) (R : World → World → Prop) (A : Nat → Value → World → Prop) (a0 : Act) (i : Nat) (o : Oper) : Prop :=
  o.guard = none ∧ ∀ (v : Nat → Value) (w : World) (ρ : Operand → Value), C w → (∀ c, ρ (.const c) = c) → (∀ f, ρ (.func f) = .func (.func f) #[] #[]) →
    (∀ (j : Nat) (d : Tmp), j < i → (ops[j]?).bind (·.dst) = some d → ρ (.tmp d) = v j) → (∀ t : Tmp, (∀ j, j < i → (ops[j]?).bind (·.dst) ≠ some t) → ρ (.tmp t) = a0.eval (.tmp t)) →
    (∀ e ∈ o.after, Region.binds .any e = true → A e.on (v e.on) w) → Ran P C R (A i) w ((execOp ρ o).run P w)

theorem step_of_u {i : Nat} {o : Oper} (T : Tidy ops a0.tmps.size) (ho : ops[i]? = some o) (h : StepU P ops C R A a0 i o) : StepOf P ops Q C R A a0 i o := by
  obtain ⟨hg, h⟩ := h
  intro v w hC hd K hK
  have hlt : i < ops.size := (Array.getElem?_eq_some_iff.1 ho).1
  have hU := InF.upto (v := v) T i (by omega)
  have hw : Region.wanted o (yielded ops (upto ops v a0 i).tmps) = true := by simp [Region.wanted, hg]
  rw [if_pos hw]
  have hr := h v w (upto ops v a0 i).eval hC (fun _ => rfl) (fun _ => rfl) (fun j d hj hjd => by
      obtain ⟨oj, hoj, hdj⟩ := Option.bind_eq_some_iff.1 hjd
      simp only [Act.eval, Array.getD_eq_getD_getElem?, hU.done j oj d hoj hdj hj, Option.getD_some]) (fun t ht => by
      have := hU.rest t (fun j oj hoj hj hdj => ht j hj (by rw [hoj]; exact hdj))
      simp only [Act.eval, Array.getD_eq_getD_getElem?, this]) hd
  unfold Oper.wp
  generalize (execOp (upto ops v a0 i).eval o).run P w = r at hr
  cases r with
  | halt x w' => exact hr.elim
  | ok n w' =>
    cases n <;> simp only [Ran] at hr <;> simp only [Oper.upon]
    case value u => exact hK u w' hr.1 hr.2.1 hr.2.2
    case enter f args =>
      refine Calls.mono hr fun e w'' q => ?_
      obtain ⟨u, rfl, h1, h2, h3⟩ := q
      exact hK u w'' h1 h2 h3

def StepsFrom (S : Nat → Oper → Prop) : Nat → List Oper → Prop
  | _, [] => True
  | k, o :: l => S k o ∧ StepsFrom S (k + 1) l
theorem steps_from {S : Nat → Oper → Prop} : ∀ (l : List Oper) (k : Nat), StepsFrom S k l → ∀ i o, l[i]? = some o → S (k + i) o
  | [], _, _, i, o, h => by simp at h
  | x :: l, k, hs, 0, o, h => by simp at h; subst h; exact hs.1
  | x :: l, k, hs, i + 1, o, h => by
    have := steps_from l (k + 1) hs.2 i o (by simpa using h)
    rwa [show k + 1 + i = k + (i + 1) from by omega] at this

/-- the same law, the operations as a list, each told whatever the frame -/
theorem grow_list {id : Nat} {w0 : World} (C : World → Prop) (R : World → World → Prop) (A : Nat → Value → World → Prop) (hm : P.follows .mixedOrders = true) (hT : tidyB ops a0.tmps.size = true) (hA : ∀ i v w w', A i v w → R w w' → A i v w') (hC : C w0.drew)
    (hstep : StepsFrom (StepU P ops C R A a0) 0 ops.toList)
    (hend : ∀ (v : Nat → Value) (w : World), C w → (∀ i, i < ops.size → A i (v i) w) → Q .normal (upto ops v a0 ops.size) w) :
    (Code.region id ops true).wp P Q a0 w0 :=
  grow_region C R A hm hT hA hC (fun i o ho => step_of_u (tidy_of hT) ho (by
    have := steps_from ops.toList 0 hstep i o (by simpa using ho)
    rwa [Nat.zero_add] at this)) hend

/-- kinds of values: this very value; a row that holds these bytes; whatever -/
def Kd : Type := Sum (Sum Value (Sum (List UInt8) (List Value))) (Option (Nat × Array Value × TypeId))
def Kd.is (x : Value) : Kd := Sum.inl (Sum.inl x)
def Kd.row (l : List UInt8) : Kd := Sum.inl (Sum.inr (Sum.inl l))
def Kd.vals (l : List Value) : Kd := Sum.inl (Sum.inr (Sum.inr l))
def Kd.any : Kd := Sum.inr none
def Kd.blk (n : Nat) (cs : Array Value) (t : TypeId) : Kd := Sum.inr (some (n, cs, t))
/-- bytes that lie in a block -/
def BytesAt (B : Nat) (l : List UInt8) (W : World) : Prop := B < W.heap.size ∧ ∀ j, (h : j < l.length) → W.cell? ⟨B, j, none⟩ = some (.int .u8 (l[j].toNat : Int))
theorem BytesAt.later {B : Nat} {l : List UInt8} {W W' : World} (h : BytesAt B l W) (hb : Below W.heap.size W W') : BytesAt B l W' := ⟨Nat.lt_of_lt_of_le h.1 hb.size, fun j hj => (hb.cell (p := ⟨B, j, none⟩) h.1).trans (h.2 j hj)⟩
/-- values that lie in a block -/
def ValsAt (B : Nat) (l : List Value) (W : World) : Prop := B < W.heap.size ∧ ∀ j, (h : j < l.length) → W.cell? ⟨B, j, none⟩ = some l[j]
theorem ValsAt.later {B : Nat} {l : List Value} {W W' : World} (h : ValsAt B l W) (hb : Below W.heap.size W W') : ValsAt B l W' := ⟨Nat.lt_of_lt_of_le h.1 hb.size, fun j hj => (hb.cell (p := ⟨B, j, none⟩) h.1).trans (h.2 j hj)⟩
theorem vals_at {W : World} (l : List Value) (t : TypeId) : ValsAt W.heap.size l (W.alloc (.cells l.toArray t)) := by
  refine ⟨by simp, fun j hj => ?_⟩
  have h : (W.alloc (.cells l.toArray t)).heap[W.heap.size]? = some (.cells l.toArray t) := by show (W.heap.push _)[W.heap.size]? = _; simp
  simp only [World.cell?, h]
  simp [List.getElem?_eq_getElem hj]
theorem ValsAt.strs {B : Nat} {ts : List ByteArray} {W : World} (h : ValsAt B (ts.map fun s => Value.string s) W) : ∀ j, (hj : j < ts.length) → W.cell? ⟨B, j, none⟩ = some (.string ts[j]) := fun j hj => by
  have := h.2 j (by simpa using hj)
  simpa using this
theorem ValsAt.ints {B : Nat} {ts : List Int} {W : World} (h : ValsAt B (ts.map fun s => Value.int .i64 s) W) : ∀ j, (hj : j < ts.length) → W.cell? ⟨B, j, none⟩ = some (.int .i64 ts[j]) := fun j hj => by
  have := h.2 j (by simpa using hj)
  simpa using this
theorem heap_newG (w : World) (o : Obj) : (w.alloc o).heap[w.heap.size]? = some o := by show (w.heap.push o)[w.heap.size]? = _; simp
/-- a pointer to a block of one's own that holds these cells -/
def BlkAt (n : Nat) (cs : Array Value) (t : TypeId) (v : Value) (w : World) : Prop := ∃ B, v = .pointer (some ⟨B, 0, none⟩) ∧ n ≤ B ∧ w.heap[B]? = some (.cells cs t)
theorem BlkAt.later {n : Nat} {cs : Array Value} {t : TypeId} {v : Value} {w w' : World} (h : BlkAt n cs t v w) (hb : Below w.heap.size w w') : BlkAt n cs t v w' := by
  obtain ⟨B, e, hn, hB⟩ := h
  exact ⟨B, e, hn, (hb.block B (Array.getElem?_eq_some_iff.1 hB).1).trans hB⟩
def Kd.says (k : Kd) (v : Value) (w : World) : Prop :=
  match k with
  | Sum.inl (Sum.inl x) => v = x
  | Sum.inl (Sum.inr (Sum.inl l)) => ∃ B, v = .slice (some ⟨B, 0, none⟩) l.length l.length ∧ BytesAt B l w
  | Sum.inl (Sum.inr (Sum.inr l)) => ∃ B, v = .slice (some ⟨B, 0, none⟩) l.length l.length ∧ ValsAt B l w
  | Sum.inr none => True
  | Sum.inr (some (n, cs, t)) => BlkAt n cs t v w
theorem Kd.later {k : Kd} {v : Value} {w w' : World} (h : k.says v w) (hb : Below w.heap.size w w') : k.says v w' := by
  match k, h with
  | Sum.inl (Sum.inl x), h => exact h
  | Sum.inl (Sum.inr (Sum.inl l)), h => obtain ⟨B, e, hB⟩ := h; exact ⟨B, e, hB.later hb⟩
  | Sum.inl (Sum.inr (Sum.inr l)), h => obtain ⟨B, e, hB⟩ := h; exact ⟨B, e, hB.later hb⟩
  | Sum.inr none, _ => trivial
  | Sum.inr (some (n, cs, t)), h => exact BlkAt.later h hb
def kdOf (ks : List Kd) (i : Nat) (v : Value) (w : World) : Prop := (ks.getD i .any).says v w

/-- .. with kinds, over the worlds that come behind w1 -/
theorem grow_kinds {id : Nat} {w0 : World} (n : Nat) (ks : List Kd) (hn : ops.size = n) (hm : P.follows .mixedOrders = true) (hT : tidyB ops a0.tmps.size = true)
    (hstep : StepsFrom (StepU P ops (fun W => Below w0.heap.size w0 W) (fun w w' => Below w.heap.size w w') (kdOf ks) a0) 0 ops.toList)
    (hend : ∀ (v : Nat → Value) (w : World), Below w0.heap.size w0 w → (∀ i, i < n → kdOf ks i (v i) w) → Q .normal (upto ops v a0 n) w) :
    (Code.region id ops true).wp P Q a0 w0 := by
  subst hn
  exact grow_list (fun W => Below w0.heap.size w0 W) (fun w w' => Below w.heap.size w w') (kdOf ks) hm hT (fun _ _ _ _ h hb => Kd.later h hb) (Below.refl _ _).drew hstep hend

/-- .. where the last operation comes behind all others (a store) -/
theorem grow_last_any {m : Nat} {last : Oper} (T : Tidy ops a0.tmps.size) (hsz : ops.size = m + 1) (hl : ops[m]? = some last) (hlg : last.guard = none) (hld : ∀ j, j < m → ∃ j' oj', j < j' ∧ j' ≤ m ∧ ops[j']? = some oj' ∧ ∃ e ∈ oj'.after, Region.binds .any e = true ∧ e.on = j)
    (hA : ∀ i v w w', A i v w → R w w' → A i v w')
    (hstep : ∀ (i : Nat) (o : Oper), i < m → ops[i]? = some o → StepOf P ops Q C R A a0 i o)
    (hend : ∀ (v : Nat → Value) (w : World), C w → (∀ i, i < m → A i (v i) w) → Oper.wp P last (upto ops v a0 m) w (fun a' w' => Q .normal a' w') (NoPanic Q)) :
    ∀ (fuel : Nat) (listed : Array Bool) (a : Act) (w : World) (v : Nat → Value), listed.size = ops.size → left ops listed ≤ fuel → listed.getD m false = false →
      InF ops v a0 (fun i => listed.getD i false = true) a → (∀ (j : Nat) (oj : Oper), ops[j]? = some oj → listed.getD j false = true → ∀ e ∈ oj.after, Region.binds .any e = true → listed.getD e.on false = true) →
      (∀ i, i < m → listed.getD i false = true → A i (v i) w) → C w → wpAny P .any ops (NoPanic Q) fuel listed a w := by
  intro fuel
  have notdone : ∀ listed : Array Bool, listed.size = ops.size → listed.getD m false = false → Region.ready .any ops listed = [] → False := by
    intro listed h1 h2 h3
    have := ready_all T h3 m (by omega) h1
    rw [h2] at this
    cases this
  induction fuel with
  | zero =>
    intro listed a w v hls hfuel hm hF hcl hAll hC
    exfalso
    have : m ∈ (List.range ops.size).filter fun i => !listed.getD i true := List.mem_filter.2 ⟨List.mem_range.2 (by omega), by
      have : m < listed.size := by omega
      simp [Array.getD, this] at hm ⊢; exact hm⟩
    have h3 : ((List.range ops.size).filter fun i => !listed.getD i true).length = 0 := by unfold left at hfuel; omega
    rw [List.length_eq_zero_iff.1 h3] at this
    cases this
  | succ fuel ih =>
    intro listed a w v hls hfuel hm hF hcl hAll hC
    refine ⟨fun h => (notdone listed hls hm h).elim, fun i hi => ?_⟩
    obtain ⟨h0, o, ho, hdep⟩ := mem_ready.1 hi
    have hlt : i < ops.size := (Array.getElem?_eq_some_iff.1 ho).1
    have hltl : i < listed.size := by omega
    have hL : ¬ listed.getD i false = true := by simp [Array.getD, hltl] at h0 ⊢; exact h0
    have hU := InF.upto (v := v) T i (by omega)
    have hag := fun t ht => InF.agree T hF hU ho hL hdep hcl t ht
    have hset : ∀ j, (listed.setIfInBounds i true).getD j false = true ↔ (listed.getD j false = true ∨ j = i) := by
      intro j
      by_cases e : j = i
      · subst e; simp [Array.getD, hltl]
      · simp only [Array.getD_eq_getD_getElem?, Array.getElem?_setIfInBounds_ne (Ne.symm e), e, or_false]
    have hless : left ops (listed.setIfInBounds i true) < left ops listed := filter_less (p := fun j => !listed.getD j true) (q := fun j => !(listed.setIfInBounds i true).getD j true) (j := i) (by
        intro j hj
        by_cases e : j = i
        · subst e; simp [Array.getD, hltl] at hj
        · simpa only [Array.getD_eq_getD_getElem?, Array.getElem?_setIfInBounds_ne (Ne.symm e)] using hj) (by simp only [h0]; rfl) (by simp [Array.getD, hltl]) _ (List.mem_range.2 hlt)
    unfold wpOp
    simp only [ho]
    by_cases him : i = m
    · subst him
      rw [hl] at ho
      injection ho with ho
      subst ho
      have hall' : ∀ d j, i - j ≤ d → j < i → listed.getD j false = true := by
        intro d
        induction d with
        | zero => intro j h1 h2; omega
        | succ d ihd =>
          intro j h1 h2
          obtain ⟨j', oj', hjj, hjm, hoj, e, he, hb, hon⟩ := hld j h2
          rw [← hon]
          by_cases hji : j' = i
          · subst hji
            rw [hl] at hoj
            injection hoj with hoj
            subst hoj
            exact hdep e he hb
          · exact hcl j' oj' hoj (ihd j' (by omega) (by omega)) e he hb
      have hall : ∀ j, j < i → listed.getD j false = true := fun j hj => hall' _ j (Nat.le_refl _) hj
      have hlast := hend v w hC (fun j hj => hAll j hj (hall j hj))
      have hw : Region.wanted last (yielded ops a.tmps) = true := by simp [Region.wanted, hlg]
      rw [if_pos hw]
      have hsame : a = upto ops v a0 i := hF.ext (hU.congr (fun j hj => ⟨fun q => hall j q, fun q => by
        by_cases e : j < i
        · exact e
        · have : j = i := by omega
          subst this
          exact (hL q).elim⟩) (fun _ _ => rfl))
      rw [hsame]
      refine .inl (Oper.wp_mono (fun a' w' hq => ?_) hlast)
      have hr : Region.ready .any ops (listed.setIfInBounds i true) = [] := by
        cases hq2 : Region.ready .any ops (listed.setIfInBounds i true) with
        | nil => rfl
        | cons x xs =>
          have hx : x ∈ Region.ready .any ops (listed.setIfInBounds i true) := by rw [hq2]; exact List.mem_cons_self
          obtain ⟨g0, ox, hox, _⟩ := mem_ready.1 hx
          have hxlt : x < ops.size := (Array.getElem?_eq_some_iff.1 hox).1
          have : (listed.setIfInBounds i true).getD x false = true := (hset x).2 (by
            by_cases e : x = i
            · exact .inr e
            · exact .inl (hall x (by omega)))
          have hxl : x < (listed.setIfInBounds i true).size := by simp; omega
          simp only [Array.getD, hxl, dif_pos] at this g0
          rw [this] at g0
          cases g0
      cases fuel with
      | zero => exact ⟨hr, hq⟩
      | succ f => exact ⟨fun _ => hq, fun j hj => by rw [hr] at hj; cases hj⟩
    · have hilt : i < m := by omega
      have next : ∀ u w', C w' → R w w' → A i u w' → wpAny P .any ops (NoPanic Q) fuel (listed.setIfInBounds i true) (a.put o.dst u) w' := by
        intro u w' hC' hR hAi
        refine ih _ _ _ (fun j => if j = i then u else v j) (by simpa using hls) (by omega) ?_ ?_ ?_ ?_ hC'
        · simp only [Array.getD_eq_getD_getElem?, Array.getElem?_setIfInBounds_ne him] at hm ⊢
          exact hm
        · exact (hF.put T ho u).congr (fun j _ => (hset j).symm) (fun _ _ => rfl)
        · intro j oj hj hlj e he hb
          rcases (hset j).1 hlj with h | rfl
          · exact (hset _).2 (.inl (hcl j oj hj h e he hb))
          · rw [ho] at hj
            injection hj with hj
            subst hj
            exact (hset _).2 (.inl (hdep e he hb))
        · intro j hj hlj
          by_cases e : j = i
          · subst e; simpa using hAi
          · have : listed.getD j false = true := ((hset j).1 hlj).resolve_right e
            simp only [e, if_false]
            exact hA _ _ _ _ (hAll j hj this) hR
      have hst := hstep i o hilt ho v w hC (fun e he hb => hAll e.on (by have := T.back i o ho e he hb; omega) (hdep e he hb))
      rw [wanted_agree hag]
      cases hw : Region.wanted o (yielded ops (upto ops v a0 i).tmps) with
      | true =>
        simp only [if_true]
        refine .inl (wp_carry (exec_agree (fun cs b => T.sel i o cs b ho) hag) (hU.defers.trans hF.defers.symm) (fun d hd => by rw [hU.size]; exact T.lt i o d ho hd) ?_)
        have := hst (fun b' w' => wpAny P .any ops (NoPanic Q) fuel (listed.setIfInBounds i true) ⟨(a.put o.dst (match o.dst with | some d => b'.tmps.getD d undef | none => undef)).tmps, b'.defers⟩ w') (by
          intro u w' hC' hR hAi
          have hn := next u w' hC' hR hAi
          have e1 : (⟨(a.put o.dst (match o.dst with | some d => ((upto ops v a0 i).put o.dst u).tmps.getD d undef | none => undef)).tmps, ((upto ops v a0 i).put o.dst u).defers⟩ : Act) = a.put o.dst u := by
            cases hod : o.dst with
            | none => simp only [Act.put]; rw [hU.defers, ← hF.defers]
            | some d =>
              have h1 : ((upto ops v a0 i).tmps.setIfInBounds d u).getD d undef = u := by
                rw [Array.getD_eq_getD_getElem?, Array.getElem?_setIfInBounds_self_of_lt (by rw [hU.size]; exact T.lt i o d ho hod)]; rfl
              simp only [Act.put, h1]
              rw [hU.defers, ← hF.defers]
          rw [e1]
          exact hn)
        simpa only [hw, if_true] using this
      | false =>
        simp only [Bool.false_eq_true, if_false]
        have := hst (fun _ _ => True) (fun _ _ _ _ _ => trivial)
        simp only [hw, Bool.false_eq_true, if_false] at this
        exact next undef w hC this.1 this.2

/-- does the last operation wait for all others? -/
def lastB (ops : Array Oper) (m : Nat) : Bool := (List.range m).all fun j => (List.range (m + 1)).any fun i => decide (j < i) && (match ops[i]? with | some o => o.after.any fun e => Region.binds .any e && e.on == j | none => false)

/-- with kinds, over the worlds that come behind w0, and a last operation that waits for all others -/
theorem grow_store {id : Nat} {w0 : World} (m : Nat) (last : Oper) (ks : List Kd) (hsz : ops.size = m + 1) (hl : ops[m]? = some last) (hlg : last.guard = none) (hlB : lastB ops m = true) (hm : P.follows .mixedOrders = true) (hT : tidyB ops a0.tmps.size = true)
    (hstep : StepsFrom (StepU P ops (fun W => Below w0.heap.size w0 W) (fun w w' => Below w.heap.size w w') (kdOf ks) a0) 0 (ops.toList.take m))
    (hend : ∀ (v : Nat → Value) (w : World), Below w0.heap.size w0 w → (∀ i, i < m → kdOf ks i (v i) w) → Oper.wp P last (upto ops v a0 m) w (fun a' w' => Q .normal a' w') (NoPanic Q)) :
    (Code.region id ops true).wp P Q a0 w0 := by
  refine wp_region_noPanic (wp_region_any hm ?_)
  have T := tidy_of hT
  have hrep : ∀ i, (Array.replicate ops.size false).getD i false = true → False := by
    intro i h
    rw [Array.getD_eq_getD_getElem?] at h
    by_cases hi : i < ops.size
    · simp [hi] at h
    · simp [Array.getElem?_eq_none (show (Array.replicate ops.size false).size ≤ i by simp; omega)] at h
  refine grow_last_any (C := fun W => Below w0.heap.size w0 W) (R := fun w w' => Below w.heap.size w w') (A := kdOf ks) T hsz hl hlg (fun j hj => ?_) (fun _ _ _ _ h hb => Kd.later h hb) (fun i o hi ho => step_of_u T ho ?_) hend ops.size _ a0 _ (fun _ => undef) (by simp) ?_ ?_ ⟨rfl, rfl, fun i _ _ _ _ h => (hrep i h).elim, fun _ _ => rfl⟩ (fun j _ _ h => (hrep j h).elim) (fun i _ h => (hrep i h).elim) (Below.refl _ _).drew
  · have := List.all_eq_true.1 hlB j (List.mem_range.2 hj)
    obtain ⟨i, hi, h3⟩ := List.any_eq_true.1 this
    simp only [Bool.and_eq_true, decide_eq_true_eq] at h3
    obtain ⟨h4, h5⟩ := h3
    cases hoi : ops[i]? with
    | none => rw [hoi] at h5; cases h5
    | some oi =>
      rw [hoi] at h5
      obtain ⟨e, he, h6⟩ := Array.any_eq_true'.1 h5
      simp only [Bool.and_eq_true, beq_iff_eq] at h6
      exact ⟨i, oi, h4, by have := List.mem_range.1 hi; omega, hoi, e, he, h6.1, h6.2⟩
  · have := steps_from (ops.toList.take m) 0 hstep i o (by rw [List.getElem?_take, if_pos hi]; simpa using ho)
    rwa [Nat.zero_add] at this
  · unfold left
    exact Nat.le_trans (List.length_filter_le _ _) (by simp)
  · cases hq : (Array.replicate ops.size false).getD m false with
    | false => rfl
    | true => exact (hrep m hq).elim

theorem setCells_heap : ∀ (l : List Value) (w : World) (b o : Nat) (cs : Array Value) (t : TypeId), w.heap[b]? = some (.cells cs t) → o + l.length = cs.size →
    (w.setCells b o l).heap[b]? = some (.cells ((cs.toList.take o ++ l).toArray) t)
  | [], w, b, o, cs, t, h, hl => by
    have : cs.toList.take o = cs.toList := List.take_of_length_le (by simp at hl ⊢; omega)
    simp [World.setCells, h, this]
  | x :: l, w, b, o, cs, t, h, hl => by
    have hlt : o < cs.size := by simp at hl; omega
    have h1 : (w.setCell ⟨b, o, none⟩ x).heap[b]? = some (.cells (cs.setIfInBounds o x) t) := heap_setCell_same w b o cs t _ h
    have := setCells_heap l (w.setCell ⟨b, o, none⟩ x) b (o + 1) (cs.setIfInBounds o x) t h1 (by simp at hl ⊢; omega)
    have e : (cs.setIfInBounds o x).toList.take (o + 1) = cs.toList.take o ++ [x] := by
      rw [Array.toList_setIfInBounds, List.take_succ_eq_append_getElem (by simpa using hlt), List.take_set_of_le (Nat.le_refl _)]
      simp
    rw [e] at this
    simpa [World.setCells] using this

/-- .. where the last operation stores a struct that was built into a block that was made -/
theorem grow_struct {id : Nat} {w0 : World} (m : Nat) (last : Oper) (ks : List Kd) (jx jy : Nat) (dx dy : Tmp) (ty t : TypeId) (old new : Array Value)
    (hsz : ops.size = m + 1) (hl : ops[m]? = some last) (hlg : last.guard = none) (hlB : lastB ops m = true) (hm : P.follows .mixedOrders = true) (hT : tidyB ops a0.tmps.size = true)
    (ho : last.op = .store ty (.tmp dx) (.tmp dy)) (hdl : last.dst = none) (hx : (ops[jx]?).bind (·.dst) = some dx) (hy : (ops[jy]?).bind (·.dst) = some dy) (hjx : jx < m) (hjy : jy < m)
    (hkx : ks.getD jx .any = .blk w0.heap.size old t) (hky : ks.getD jy .any = .is (.agg new)) (hon : old.size = new.size) (h1 : new.all (·.oneCell') = true) (hi : (P.info? ty).map (·.size) = some new.size)
    (hstep : StepsFrom (StepU P ops (fun W => Below w0.heap.size w0 W) (fun w w' => Below w.heap.size w w') (kdOf ks) a0) 0 (ops.toList.take m))
    (hend : ∀ (v : Nat → Value) (w : World) (B : Nat), Below w0.heap.size w0 w → v jx = .pointer (some ⟨B, 0, none⟩) → w0.heap.size ≤ B → w.heap[B]? = some (.cells new t) → (∀ i x, i < m → ks.getD i .any = .is x → v i = x) → Q .normal (upto ops v a0 m) w) :
    (Code.region id ops true).wp P Q a0 w0 := by
  refine grow_store m last ks hsz hl hlg hlB hm hT hstep (fun v w hC hall => ?_)
  have T := tidy_of hT
  have hU := InF.upto (v := v) T m (by omega)
  have hxk := hall jx hjx
  have hyk := hall jy hjy
  unfold kdOf at hxk hyk
  rw [hkx] at hxk
  rw [hky] at hyk
  obtain ⟨B, e, hn, hB⟩ := hxk
  have e2 : v jy = .agg new := hyk
  have ev : ∀ j d, j < m → (ops[j]?).bind (·.dst) = some d → (upto ops v a0 m).eval (.tmp d) = v j := fun j d hj hjd => by
    obtain ⟨oj, hoj, hdj⟩ := Option.bind_eq_some_iff.1 hjd
    simp only [Act.eval, Array.getD_eq_getD_getElem?, hU.done j oj d hoj hdj hj, Option.getD_some]
  have hth : w.there B 0 new.size := fun j hj => by
    refine ⟨?_, by simp [World.frozen?, hB]⟩
    have : j < old.size := by omega
    simp [World.cell?, hB, this]
  refine wp_store_mid ty (.tmp dx) (.tmp dy) ho B 0 new ((ev jx dx hjx hx).trans e) ((ev jy dy hjy hy).trans e2) hth hi h1 ?_
  have hheap := setCells_heap new.toList w B 0 old t hB (by simpa using hon.symm)
  simp only [List.take_zero, List.nil_append, Array.toArray_toList] at hheap
  rw [hdl]
  refine hend v _ B (Go.below_setCells hn _ _ _ hC) e hn hheap (fun i x hi hk => ?_)
  have := hall i hi
  unfold kdOf at this
  rw [hk] at this
  exact this

/-- .. where the last operation stores a struct that was built into a block that is known -/
theorem grow_into {id : Nat} {w0 : World} (m : Nat) (last : Oper) (ks : List Kd) (jy : Nat) (dx dy : Tmp) (ty t : TypeId) (g : Nat) (old new : Array Value)
    (hsz : ops.size = m + 1) (hl : ops[m]? = some last) (hlg : last.guard = none) (hlB : lastB ops m = true) (hm : P.follows .mixedOrders = true) (hT : tidyB ops a0.tmps.size = true)
    (ho : last.op = .store ty (.tmp dx) (.tmp dy)) (hdl : last.dst = none) (hx : ∀ j, j < m → (ops[j]?).bind (·.dst) ≠ some dx) (hx0 : a0.eval (.tmp dx) = .pointer (some ⟨g, 0, none⟩)) (hy : (ops[jy]?).bind (·.dst) = some dy) (hjy : jy < m)
    (hg : w0.heap[g]? = some (.cells old t)) (hky : ks.getD jy .any = .is (.agg new)) (hon : old.size = new.size) (h1 : new.all (·.oneCell') = true) (hi : (P.info? ty).map (·.size) = some new.size)
    (hstep : StepsFrom (StepU P ops (fun W => Below w0.heap.size w0 W) (fun w w' => Below w.heap.size w w') (kdOf ks) a0) 0 (ops.toList.take m))
    (hend : ∀ (v : Nat → Value) (w : World), (∀ B, B ≤ g → Below B w0 w) → w.heap[g]? = some (.cells new t) → (∀ i x, i < m → ks.getD i .any = .is x → v i = x) → Q .normal (upto ops v a0 m) w) :
    (Code.region id ops true).wp P Q a0 w0 := by
  refine grow_store m last ks hsz hl hlg hlB hm hT hstep (fun v w hC hall => ?_)
  have T := tidy_of hT
  have hU := InF.upto (v := v) T m (by omega)
  have hyk := hall jy hjy
  unfold kdOf at hyk
  rw [hky] at hyk
  have e2 : v jy = .agg new := hyk
  have hgl : g < w0.heap.size := (Array.getElem?_eq_some_iff.1 hg).1
  have hB : w.heap[g]? = some (.cells old t) := (hC.block g hgl).trans hg
  have ev : ∀ j d, j < m → (ops[j]?).bind (·.dst) = some d → (upto ops v a0 m).eval (.tmp d) = v j := fun j d hj hjd => by
    obtain ⟨oj, hoj, hdj⟩ := Option.bind_eq_some_iff.1 hjd
    simp only [Act.eval, Array.getD_eq_getD_getElem?, hU.done j oj d hoj hdj hj, Option.getD_some]
  have ex : (upto ops v a0 m).eval (.tmp dx) = .pointer (some ⟨g, 0, none⟩) := by
    have := hU.rest dx (fun j oj hoj hj hdj => hx j hj (by rw [hoj]; exact hdj))
    rw [← hx0]
    simp only [Act.eval, Array.getD_eq_getD_getElem?, this]
  have hth : w.there g 0 new.size := fun j hj => by
    refine ⟨?_, by simp [World.frozen?, hB]⟩
    have : j < old.size := by omega
    simp [World.cell?, hB, this]
  refine wp_store_mid ty (.tmp dx) (.tmp dy) ho g 0 new ex ((ev jy dy hjy hy).trans e2) hth hi h1 ?_
  have hheap := setCells_heap new.toList w g 0 old t hB (by simpa using hon.symm)
  simp only [List.take_zero, List.nil_append, Array.toArray_toList] at hheap
  rw [hdl]
  refine hend v _ (fun B hBg => Go.below_setCells hBg _ _ _ (hC.mono (by omega))) hheap (fun i x hi hk => ?_)
  have := hall i hi
  unfold kdOf at this
  rw [hk] at this
  exact this

/-- what an operation that may be guarded is asked: what its guard yields is told too -/
def StepW (P : Program) (ops : Array Oper) (C : World → Prop) (R : World → World → Prop) (A : Nat → Value → World → Prop) (a0 : Act) (i : Nat) (o : Oper) : Prop :=
  ∀ (v : Nat → Value) (w : World) (ρ : Operand → Value) (y : Nat → Option Bool), C w → (∀ c, ρ (.const c) = c) → (∀ f, ρ (.func f) = .func (.func f) #[] #[]) →
    (∀ (j : Nat) (d : Tmp), j < i → (ops[j]?).bind (·.dst) = some d → ρ (.tmp d) = v j) → (∀ t : Tmp, (∀ j, j < i → (ops[j]?).bind (·.dst) ≠ some t) → ρ (.tmp t) = a0.eval (.tmp t)) →
    (∀ (j : Nat) (d : Tmp) (b : Bool), j < i → (ops[j]?).bind (·.dst) = some d → v j = .bool b → y j = some b) → (∀ (j : Nat) (d : Tmp), j < i → (ops[j]?).bind (·.dst) = some d → v j = undef → y j = none) →
    (∀ e ∈ o.after, Region.binds .any e = true → A e.on (v e.on) w) → if Region.wanted o y = true then Ran P C R (A i) w ((execOp ρ o).run P w) else R w w ∧ A i undef w
theorem stepW_of_u {i : Nat} {o : Oper} (h : StepU P ops C R A a0 i o) : StepW P ops C R A a0 i o := by
  obtain ⟨hg, h⟩ := h
  intro v w ρ y hC h1 h2 h3 h4 _ _ h5
  rw [if_pos (by simp [Region.wanted, hg])]
  exact h v w ρ hC h1 h2 h3 h4 h5
theorem step_of_w {i : Nat} {o : Oper} (T : Tidy ops a0.tmps.size) (ho : ops[i]? = some o) (h : StepW P ops C R A a0 i o) : StepOf P ops Q C R A a0 i o := by
  intro v w hC hd K hK
  have hlt : i < ops.size := (Array.getElem?_eq_some_iff.1 ho).1
  have hU := InF.upto (v := v) T i (by omega)
  have hr := h v w (upto ops v a0 i).eval (yielded ops (upto ops v a0 i).tmps) hC (fun _ => rfl) (fun _ => rfl) (fun j d hj hjd => by
      obtain ⟨oj, hoj, hdj⟩ := Option.bind_eq_some_iff.1 hjd
      simp only [Act.eval, Array.getD_eq_getD_getElem?, hU.done j oj d hoj hdj hj, Option.getD_some]) (fun t ht => by
      have := hU.rest t (fun j oj hoj hj hdj => ht j hj (by rw [hoj]; exact hdj))
      simp only [Act.eval, Array.getD_eq_getD_getElem?, this]) (fun j d b hj hjd hb => by
      obtain ⟨oj, hoj, hdj⟩ := Option.bind_eq_some_iff.1 hjd
      unfold yielded
      rw [hjd]
      simp only [Option.bind_some, hU.done j oj d hoj hdj hj, hb]) (fun j d hj hjd hb => by
      obtain ⟨oj, hoj, hdj⟩ := Option.bind_eq_some_iff.1 hjd
      unfold yielded
      rw [hjd]
      simp only [Option.bind_some, hU.done j oj d hoj hdj hj, hb]
      rfl) hd
  cases hw : Region.wanted o (yielded ops (upto ops v a0 i).tmps) with
  | false => rw [hw] at hr; simpa using hr
  | true =>
    rw [hw] at hr
    simp only [if_true] at hr ⊢
    unfold Oper.wp
    generalize (execOp (upto ops v a0 i).eval o).run P w = r at hr
    cases r with
    | halt x w' => exact hr.elim
    | ok n w' =>
      cases n <;> simp only [Ran] at hr <;> simp only [Oper.upon]
      case value u => exact hK u w' hr.1 hr.2.1 hr.2.2
      case enter f args =>
        refine Calls.mono hr fun e w'' q => ?_
        obtain ⟨u, rfl, h1, h2, h3⟩ := q
        exact hK u w'' h1 h2 h3

/-- 'grow_kinds' where operations may be guarded -/
theorem grow_guarded {id : Nat} {w0 : World} (n : Nat) (ks : List Kd) (hn : ops.size = n) (hm : P.follows .mixedOrders = true) (hT : tidyB ops a0.tmps.size = true)
    (hstep : StepsFrom (StepW P ops (fun W => Below w0.heap.size w0 W) (fun w w' => Below w.heap.size w w') (kdOf ks) a0) 0 ops.toList)
    (hend : ∀ (v : Nat → Value) (w : World), Below w0.heap.size w0 w → (∀ i, i < n → kdOf ks i (v i) w) → Q .normal (upto ops v a0 n) w) :
    (Code.region id ops true).wp P Q a0 w0 := by
  subst hn
  exact grow_region (fun W => Below w0.heap.size w0 W) (fun w w' => Below w.heap.size w w') (kdOf ks) hm hT (fun _ _ _ _ h hb => Kd.later h hb) (Below.refl _ _).drew (fun i o ho => step_of_w (tidy_of hT) ho (by
    have := steps_from ops.toList 0 hstep i o (by simpa using ho)
    rwa [Nat.zero_add] at this)) hend
end
end Go.Proofs.Ytilajoafppplcaa
