/- Proved here: nothing of a program: a right slab's numbers are small. · Proved here: a law on regions that draw their order, where a block of one int is made, written once, and more may follow (no program of its own). -/
import Derived.Test.YtjhkaideckgffaaSlabFactsA
import Derived.Test.YtjhkaideckgffaaGrowLast
section
namespace Go.Proofs.Ytjhkaideckgffaa
open Go.ChangeShapes Go.WideShapes Go.ChangeAt Go.RowKit
set_option linter.unusedVariables false
set_option linter.unusedSimpArgs false
set_option maxRecDepth 100000

theorem fit_of {z : Int} (h1 : -9223372036854775808 ≤ z) (h2 : z ≤ 9223372036854775807) : fitZ z := ⟨h1, h2⟩
theorem next_fit {nS nH : Nat} {z : Int} (h : nextB nS nH z = true) (h1 : nS ≤ 24) (h2 : nH ≤ 4) : fitZ z := by
  unfold nextB endB at h
  simp only [Bool.or_eq_true, Bool.and_eq_true, decide_eq_true_eq] at h
  exact fit_of (by omega) (by omega)
theorem right_fit {s : Slb} (h : rightSl s = true) : SlabFit s := by
  have R := rt_of h
  obtain ⟨n1, n2, n3, n4⟩ := rt_sizes R.sz
  refine ⟨fun x hx => ?_, fun z hz => ?_⟩
  · have := List.all_eq_true.1 R.sl x hx
    unfold okS at this
    simp only [Bool.and_eq_true] at this
    obtain ⟨⟨⟨k1, k2⟩, k3⟩, k4⟩ := this
    have q1 : 0 ≤ x.key ∧ x.key ≤ 999 := by unfold keyB at k1; simpa using k1
    have q2 := (time_iff _).1 k2
    have q3 := (time_iff _).1 k3
    exact ⟨fit_of (by omega) (by omega), fit_of (by omega) (by omega), fit_of (by omega) (by omega), next_fit k4 n2 n4⟩
  · obtain ⟨i, hi, e⟩ := List.getElem_of_mem hz
    have := head_next R hi
    rw [List.getD_eq_getElem?_getD, List.getElem?_eq_getElem hi] at this
    rw [← e]
    exact next_fit this n2 n4
end Go.Proofs.Ytjhkaideckgffaa
end

section
namespace Go.Proofs.Ytjhkaideckgffaa
open Go.ChangeShapes Go.WideShapes Go.ChangeAt Go.RowKit
set_option linter.unusedVariables false
set_option linter.unusedSimpArgs false

section
variable {P : Program} {ops : Array Oper} {Q : Exit → Act → World → Prop} {a0 : Act}
/-- what is said of each value, whatever memory is -/
def kpure (ks : List (Value → Prop)) (i : Nat) (v : Value) : Prop := (ks.getD i (fun _ => True)) v
def StepO (P : Program) (ops : Array Oper) (w0 : World) (ks : List (Value → Prop)) (jx js : Nat) (z : Int) (t : TypeId) (a0 : Act) (i : Nat) (o : Oper) : Prop :=
  o.guard = none ∧ (i ≠ js → ∀ (v : Nat → Value) (w : World) (ρ : Operand → Value), Below w0.heap.size w0 w → (∀ c, ρ (.const c) = c) → (∀ f, ρ (.func f) = .func (.func f) #[] #[]) →
    (∀ (j : Nat) (d : Tmp), j < i → (ops[j]?).bind (·.dst) = some d → ρ (.tmp d) = v j) → (∀ t : Tmp, (∀ j, j < i → (ops[j]?).bind (·.dst) ≠ some t) → ρ (.tmp t) = a0.eval (.tmp t)) →
    (∀ e ∈ o.after, Region.binds .any e = true → kpure ks e.on (v e.on)) →
    RanS P (fun u w' => Below w0.heap.size w0 w' ∧ Below w.heap.size w w' ∧ kpure ks i u ∧ (i = jx → ∃ B, u = .pointer (some ⟨B, 0, none⟩) ∧ w0.heap.size ≤ B ∧ w'.heap[B]? = some (.cells #[.int .i64 z] t))) ((execOp ρ o).run P w))
theorem stepsFrom_monoO {F G : Nat → Oper → Prop} (h : ∀ i o, F i o → G i o) : ∀ (l : List Oper) (k : Nat), StepsFrom F k l → StepsFrom G k l
  | [], _, _ => trivial
  | o :: l, k, hk => ⟨h _ _ hk.1, stepsFrom_monoO h l (k + 1) hk.2⟩
theorem stepsFrom_at {F G : Nat → Oper → Prop} : ∀ (l : List Oper) (k : Nat), (∀ i o, l[i]? = some o → F (k + i) o → G (k + i) o) → StepsFrom F k l → StepsFrom G k l
  | [], _, _, _ => trivial
  | o :: l, k, h, hk => ⟨by have := h 0 o rfl; simpa using this hk.1, stepsFrom_at l (k + 1) (fun i o' hi hf => by
      have := h (i + 1) o' (by simpa using hi)
      rw [show k + (i + 1) = k + 1 + i by omega] at this
      exact this hf) hk.2⟩
theorem grow_once {id : Nat} {w0 : World} (n : Nat) (ks : List (Value → Prop)) (jx js jy : Nat) (dx dy : Tmp) (ty t : TypeId) (z x : Int) (oj : Oper) (hn : ops.size = n) (hm : P.follows .mixedOrders = true) (hT : tidyB ops a0.tmps.size = true)
    (hjs : ops[js]? = some oj) (ho : oj.op = .store ty (.tmp dx) (.tmp dy)) (hdl : oj.dst = none) (hjx : jx < js) (hjy : jy < js) (hx : (ops[jx]?).bind (·.dst) = some dx) (hy : (ops[jy]?).bind (·.dst) = some dy)
    (hex : ∃ e ∈ oj.after, Region.binds .any e = true ∧ e.on = jx) (hey : ∃ e ∈ oj.after, Region.binds .any e = true ∧ e.on = jy) (hky : ∀ v, kpure ks jy v → v = .int .i64 x) (hks : ∀ v, kpure ks js v) (hi : (P.info? ty).map (·.size) = some 1)
    (hstep : StepsFrom (StepO P ops w0 ks jx js z t a0) 0 ops.toList)
    (hend : ∀ (v : Nat → Value) (w : World) (B : Nat), Below w0.heap.size w0 w → v jx = .pointer (some ⟨B, 0, none⟩) → w0.heap.size ≤ B → w.heap[B]? = some (.cells #[.int .i64 x] t) → (∀ i, i < n → kpure ks i (v i)) → Q .normal (upto ops v a0 n) w) :
    (Code.region id ops true).wp P Q a0 w0 := by
  subst hn
  have hlt : js < ops.size := (Array.getElem?_eq_some_iff.1 hjs).1
  refine growS (fun L v W => Below w0.heap.size w0 W ∧ (∀ i, L i → kpure ks i (v i)) ∧ (L js → L jx) ∧ (L jx → ∃ B, v jx = .pointer (some ⟨B, 0, none⟩) ∧ w0.heap.size ≤ B ∧ (¬ L js → W.heap[B]? = some (.cells #[.int .i64 z] t)) ∧ (L js → W.heap[B]? = some (.cells #[.int .i64 x] t)))) hm hT (fun L v hno => ⟨(Below.refl _ _).drew, fun i h => (hno i h).elim, fun h => (hno _ h).elim, fun h => (hno _ h).elim⟩) (stepsFrom_at _ 0 (fun i o hio h => ?_) hstep) (fun L v w hc hall => ?_)
  · rw [Nat.zero_add] at h ⊢
    have hio' : ops[i]? = some o := by simpa using hio
    obtain ⟨hg, h⟩ := h
    refine ⟨hg, fun L v w ρ hc hn hd kc kf ksp ki => ?_⟩
    obtain ⟨c1, c2, c3, c4⟩ := hc
    by_cases e : i = js
    · subst e
      rw [hjs] at hio'
      injection hio' with hio'
      subst hio'
      obtain ⟨e1, he1, hb1, ho1⟩ := hex
      obtain ⟨e2, he2, hb2, ho2⟩ := hey
      have Lx : L jx := by rw [← ho1]; exact hd e1 he1 hb1
      have Ly : L jy := by rw [← ho2]; exact hd e2 he2 hb2
      obtain ⟨B, eB, hB, hz, _⟩ := c4 Lx
      have hzz := hz hn
      have tx : ρ (.tmp dx) = .pointer (some ⟨B, 0, none⟩) := (ksp jx dx hjx hx).trans eB
      have ty' : ρ (.tmp dy) = .int .i64 x := (ksp jy dy hjy hy).trans (hky _ (c2 _ Ly))
      have hrun : (storeVar ty ⟨B, 0, none⟩ (.int .i64 x)).run P w = .ok () (w.setCell ⟨B, 0, none⟩ (.int .i64 x)) := by
        have := run_storeCells_cells (P := P) B 0 [.int .i64 x] 0 w (fun j hj => by
          have : j = 0 := by simpa using hj
          subst this; simp [World.cell?, hzz]) (fun j hj => by
          have : j = 0 := by simpa using hj
          subst this; simp [World.frozen?, hzz]) (fun v hv => by simp at hv; subst hv; rfl)
        cases hq : P.info? ty with
        | none => simp [hq] at hi
        | some i =>
          have hs : 1 = i.size := by simp [hq] at hi; omega
          simp only [Nat.add_zero] at this
          simp [storeVar, sizeOf, typeInfo, hq, Value.cells, ← hs, this, World.setCells]
      unfold execOp
      simp only [ho, tx, ty', Instr.storeAt, Instr.sureAddr, Sem.run_bind, Sem.run_pure, Result.andThen_ok, hrun]
      simp only [RanS]
      refine ⟨c1.setCell (p := ⟨B, 0, none⟩) hB _, fun j hj => ?_, fun _ => .inl Lx, fun _ => ⟨B, ?_, hB, fun hno => by simp at hno, fun _ => ?_⟩⟩
      · by_cases ej : j = i
        · subst ej; exact hks _
        · simp only [if_neg ej]; exact c2 j (hj.resolve_right ej)
      · have : ¬ jx = i := by omega
        simp only [if_neg this]; exact eB
      · have := blk_set hzz 0 (.int .i64 x)
        simpa using this
    · refine RanS.monoL ?_ (h e v w ρ c1 kc kf ksp ki (fun e' he hb => c2 _ (hd e' he hb)))
      intro u w' ⟨q1, q2, q3, q4⟩
      refine ⟨q1, fun j hj => ?_, fun hj => ?_, fun hj => ?_⟩
      · by_cases ej : j = i
        · subst ej; simpa using q3
        · simp only [if_neg ej]; exact c2 j (hj.resolve_right ej)
      · have : L js := hj.resolve_right (fun e' => e e'.symm)
        exact .inl (c3 this)
      · by_cases ex : jx = i
        · obtain ⟨B, hu, hB, hcl⟩ := q4 ex.symm
          refine ⟨B, by simp only [if_pos ex]; exact hu, hB, fun _ => hcl, fun hj2 => ?_⟩
          have : L js := hj2.resolve_right (fun e' => e e'.symm)
          have := c3 this
          rw [ex] at this
          exact (hn this).elim
        · obtain ⟨B, hu, hB, h1, h2⟩ := c4 (hj.resolve_right ex)
          refine ⟨B, by simp only [if_neg ex]; exact hu, hB, fun hno => ?_, fun hj2 => ?_⟩
          · have := h1 (fun h' => hno (.inl h'))
            exact blk_later this q2
          · exact blk_later (h2 (hj2.resolve_right (fun e' => e e'.symm))) q2
  · obtain ⟨c1, c2, c3, c4⟩ := hc
    obtain ⟨B, eB, hB, _, h2⟩ := c4 (hall jx (by omega))
    exact hend v w B c1 eB hB (h2 (hall js hlt)) (fun i hi => c2 i (hall i hi))
end
end Go.Proofs.Ytjhkaideckgffaa
end
