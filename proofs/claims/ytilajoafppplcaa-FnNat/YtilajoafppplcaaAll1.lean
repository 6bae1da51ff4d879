/- Proved here: a law on regions that draw their order (no program of its own): a class of worlds that knows which operations have come up, and with which values, lasts to the region's end, in whatever order. · Proved here: a law on regions that draw their order and store into blocks of the call's own (no program of its own): a class of worlds lasts, each operation's value keeps what is said of it. · Proved here: small facts on a block of a call's own: its cells, what a store leaves (no program of its own). · Proved here: nothing of a program: kinds of values, told of each operation of a region. · Proved here: small facts on byte slices of a call's own: what is written stays, a byte appended, the slice turned into a string. -/
import Derived.Test.YtilajoafppplcaaGrow
import Derived.Test.YtilajoafppplcaaRows
import Derived.WalkKit
import Derived.WalkSpells
import Derived.ProofKit
import Derived.OpenShut
import Derived.ShutString
import Derived.Handy
import Derived.Below
import Derived.Laws.BitsAllLaws
import Derived.Laws.IdiomStrings
section
namespace Go.Proofs.Ytilajoafppplcaa
open Go.ChangeShapes Go.WideShapes Go.ChangeAt Go.RowKit
set_option linter.unusedVariables false
set_option linter.unusedSimpArgs false

section
variable {P : Program} {ops : Array Oper} {Q : Exit → Act → World → Prop} {a0 : Act} {C : (Nat → Prop) → (Nat → Value) → World → Prop}

/-- what an operation has come to -/
def RanS (P : Program) (B : Value → World → Prop) : Result Next → Prop
  | .ok (.value u) w' => B u w'
  | .ok .skip w' => B undef w'
  | .ok (.enter f args) w' => Calls P f args w' fun e w'' => ∃ u, e = .returned u ∧ B u w''
  | _ => False
/-- what is asked of each operation, whatever has come up ahead of it -/
def StepS (P : Program) (ops : Array Oper) (C : (Nat → Prop) → (Nat → Value) → World → Prop) (a0 : Act) (i : Nat) (o : Oper) : Prop :=
  o.guard = none ∧ ∀ (L : Nat → Prop) (v : Nat → Value) (w : World) (ρ : Operand → Value), C L v w → ¬ L i → (∀ e ∈ o.after, Region.binds .any e = true → L e.on) →
    (∀ c, ρ (.const c) = c) → (∀ f, ρ (.func f) = .func (.func f) #[] #[]) →
    (∀ (j : Nat) (d : Tmp), j < i → (ops[j]?).bind (·.dst) = some d → ρ (.tmp d) = v j) → (∀ t : Tmp, (∀ j, j < i → (ops[j]?).bind (·.dst) ≠ some t) → ρ (.tmp t) = a0.eval (.tmp t)) →
    RanS P (fun u w' => C (fun j => L j ∨ j = i) (fun j => if j = i then u else v j) w') ((execOp ρ o).run P w)

theorem growS_any (T : Tidy ops a0.tmps.size) (hstep : ∀ (i : Nat) (o : Oper), ops[i]? = some o → StepS P ops C a0 i o)
    (hend : ∀ (L : Nat → Prop) (v : Nat → Value) (w : World), C L v w → (∀ i, i < ops.size → L i) → Q .normal (upto ops v a0 ops.size) w) :
    ∀ (fuel : Nat) (listed : Array Bool) (a : Act) (w : World) (v : Nat → Value), listed.size = ops.size → left ops listed ≤ fuel →
      InF ops v a0 (fun i => listed.getD i false = true) a → (∀ (j : Nat) (oj : Oper), ops[j]? = some oj → listed.getD j false = true → ∀ e ∈ oj.after, Region.binds .any e = true → listed.getD e.on false = true) →
      C (fun i => listed.getD i false = true) v w → wpAny P .any ops (NoPanic Q) fuel listed a w := by
  intro fuel
  have fin : ∀ (listed : Array Bool) (a : Act) (w : World) (v : Nat → Value), listed.size = ops.size → InF ops v a0 (fun i => listed.getD i false = true) a →
      C (fun i => listed.getD i false = true) v w → Region.ready .any ops listed = [] → NoPanic Q .normal a w := by
    intro listed a w v hsz hF hC hr
    have hall := ready_all T hr
    have h1 := hend _ v w hC (fun i hi => hall i hi hsz)
    have h2 : InF ops v a0 (fun i => listed.getD i false = true) (upto ops v a0 ops.size) := (InF.upto T ops.size (Nat.le_refl _)).congr (fun i hi => ⟨fun _ => hall i hi hsz, fun _ => hi⟩) (fun _ _ => rfl)
    rw [hF.ext h2]
    exact h1
  induction fuel with
  | zero =>
    intro listed a w v hsz hfuel hF hcl hC
    have hr : Region.ready .any ops listed = [] := by
      cases hq : Region.ready .any ops listed with
      | nil => rfl
      | cons x xs =>
        have hx : x ∈ Region.ready .any ops listed := by rw [hq]; exact List.mem_cons_self
        obtain ⟨h0, o, ho, _⟩ := mem_ready.1 hx
        have hlt : x < ops.size := (Array.getElem?_eq_some_iff.1 ho).1
        have : x ∈ (List.range ops.size).filter fun i => !listed.getD i true := List.mem_filter.2 ⟨List.mem_range.2 hlt, by rw [h0]; rfl⟩
        have h3 : ((List.range ops.size).filter fun i => !listed.getD i true).length = 0 := by unfold left at hfuel; omega
        rw [List.length_eq_zero_iff.1 h3] at this
        cases this
    exact ⟨hr, fin listed a w v hsz hF hC hr⟩
  | succ fuel ih =>
    intro listed a w v hsz hfuel hF hcl hC
    refine ⟨fin listed a w v hsz hF hC, fun i hi => ?_⟩
    obtain ⟨h0, o, ho, hdep⟩ := mem_ready.1 hi
    have hlt : i < ops.size := (Array.getElem?_eq_some_iff.1 ho).1
    have hltl : i < listed.size := by omega
    have hL : ¬ listed.getD i false = true := by simp [Array.getD, hltl] at h0 ⊢; exact h0
    have hU := InF.upto (v := v) T i (by omega)
    have hag := fun t ht => InF.agree T hF hU ho hL hdep hcl t ht
    have hset : ∀ j, (listed.setIfInBounds i true).getD j false = true ↔ (listed.getD j false = true ∨ j = i) := by
      intro j
      by_cases e : j = i
      · subst e; simp [Array.getD, hltl]
      · simp only [Array.getD_eq_getD_getElem?, Array.getElem?_setIfInBounds_ne (Ne.symm e), e, or_false]
    have hsetF : (fun j => (listed.setIfInBounds i true).getD j false = true) = (fun j => listed.getD j false = true ∨ j = i) := funext fun j => propext (hset j)
    have next : ∀ u w', C (fun j => listed.getD j false = true ∨ j = i) (fun j => if j = i then u else v j) w' → wpAny P .any ops (NoPanic Q) fuel (listed.setIfInBounds i true) (a.put o.dst u) w' := by
      intro u w' hC'
      refine ih _ _ _ (fun j => if j = i then u else v j) (by simpa using hsz) ?_ ?_ ?_ (by rw [hsetF]; exact hC')
      · have : left ops (listed.setIfInBounds i true) < left ops listed := filter_less (p := fun j => !listed.getD j true) (q := fun j => !(listed.setIfInBounds i true).getD j true) (j := i) (by
            intro j hj
            by_cases e : j = i
            · subst e; simp [Array.getD, hltl] at hj
            · simpa only [Array.getD_eq_getD_getElem?, Array.getElem?_setIfInBounds_ne (Ne.symm e)] using hj) (by simp only [h0]; rfl) (by simp [Array.getD, hltl]) _ (List.mem_range.2 hlt)
        omega
      · exact (hF.put T ho u).congr (fun j _ => (hset j).symm) (fun _ _ => rfl)
      · intro j oj hj hlj e he hb
        rcases (hset j).1 hlj with h | rfl
        · exact (hset _).2 (.inl (hcl j oj hj h e he hb))
        · rw [ho] at hj
          injection hj with hj
          subst hj
          exact (hset _).2 (.inl (hdep e he hb))
    unfold wpOp
    simp only [ho]
    obtain ⟨hg, hst⟩ := hstep i o ho
    have hw : Region.wanted o (yielded ops a.tmps) = true := by simp [Region.wanted, hg]
    simp only [hw, if_true]
    refine .inl (wp_carry (exec_agree (fun cs b => T.sel i o cs b ho) hag) (hU.defers.trans hF.defers.symm) (fun d hd => by rw [hU.size]; exact T.lt i o d ho hd) ?_)
    have hr := hst (fun j => listed.getD j false = true) v w (upto ops v a0 i).eval hC hL (fun e he hb => hdep e he hb) (fun _ => rfl) (fun _ => rfl) (fun j d hj hjd => by
        obtain ⟨oj, hoj, hdj⟩ := Option.bind_eq_some_iff.1 hjd
        simp only [Act.eval, Array.getD_eq_getD_getElem?, hU.done j oj d hoj hdj hj, Option.getD_some]) (fun t ht => by
        have := hU.rest t (fun j oj hoj hj hdj => ht j hj (by rw [hoj]; exact hdj))
        simp only [Act.eval, Array.getD_eq_getD_getElem?, this])
    have e1 : ∀ u, (⟨(a.put o.dst (match o.dst with | some d => ((upto ops v a0 i).put o.dst u).tmps.getD d undef | none => undef)).tmps, ((upto ops v a0 i).put o.dst u).defers⟩ : Act) = a.put o.dst u := by
      intro u
      cases hod : o.dst with
      | none => simp only [Act.put]; rw [hU.defers, ← hF.defers]
      | some d =>
        have h1 : ((upto ops v a0 i).tmps.setIfInBounds d u).getD d undef = u := by
          rw [Array.getD_eq_getD_getElem?, Array.getElem?_setIfInBounds_self_of_lt (by rw [hU.size]; exact T.lt i o d ho hod)]; rfl
        simp only [Act.put, h1]
        rw [hU.defers, ← hF.defers]
    unfold Oper.wp
    generalize (execOp (upto ops v a0 i).eval o).run P w = r at hr
    cases r with
    | halt x w' => exact hr.elim
    | ok n w' =>
      cases n <;> simp only [RanS] at hr <;> simp only [Oper.upon]
      case value u => exact Eq.mpr (congrArg (fun z => wpAny P .any ops (NoPanic Q) fuel (listed.setIfInBounds i true) z w') (e1 u)) (next u w' hr)
      case skip => exact Eq.mpr (congrArg (fun z => wpAny P .any ops (NoPanic Q) fuel (listed.setIfInBounds i true) z w') (e1 undef)) (next undef w' hr)
      case enter f args =>
        refine Calls.mono hr fun e w'' q => ?_
        obtain ⟨u, rfl, h1⟩ := q
        exact Eq.mpr (congrArg (fun z => wpAny P .any ops (NoPanic Q) fuel (listed.setIfInBounds i true) z w'') (e1 u)) (next u w'' h1)

/-- THE LAW: a region that draws its order, over a class that knows what has come up -/
theorem growS {id : Nat} {w0 : World} (C : (Nat → Prop) → (Nat → Value) → World → Prop) (hm : P.follows .mixedOrders = true) (hT : tidyB ops a0.tmps.size = true) (hC : ∀ L v, (∀ i, ¬ L i) → C L v w0.drew)
    (hstep : StepsFrom (StepS P ops C a0) 0 ops.toList)
    (hend : ∀ (L : Nat → Prop) (v : Nat → Value) (w : World), C L v w → (∀ i, i < ops.size → L i) → Q .normal (upto ops v a0 ops.size) w) :
    (Code.region id ops true).wp P Q a0 w0 := by
  refine wp_region_noPanic (wp_region_any hm ?_)
  have T := tidy_of hT
  have hrep : ∀ i, (Array.replicate ops.size false).getD i false = true → False := by
    intro i h
    rw [Array.getD_eq_getD_getElem?] at h
    by_cases hi : i < ops.size
    · simp [hi] at h
    · simp [Array.getElem?_eq_none (show (Array.replicate ops.size false).size ≤ i by simp; omega)] at h
  refine growS_any T (fun i o ho => by
    have := steps_from ops.toList 0 hstep i o (by simpa using ho)
    rwa [Nat.zero_add] at this) hend ops.size _ a0 _ (fun _ => undef) (by simp) ?_ ⟨rfl, rfl, fun i _ _ _ _ h => (hrep i h).elim, fun _ _ => rfl⟩ (fun j _ _ h => (hrep j h).elim) (hC _ _ (fun i h => hrep i h))
  unfold left
  exact Nat.le_trans (List.length_filter_le _ _) (by simp)
end
end Go.Proofs.Ytilajoafppplcaa
end

section
namespace Go.Proofs.Ytilajoafppplcaa
open Go.ChangeShapes Go.WideShapes Go.ChangeAt Go.RowKit
set_option linter.unusedVariables false
set_option linter.unusedSimpArgs false

section
variable {P : Program} {ops : Array Oper} {Q : Exit → Act → World → Prop} {a0 : Act}

theorem RanS.mono {B B' : Value → World → Prop} (h : ∀ u w, B u w → B' u w) : ∀ {r : Result Next}, RanS P B r → RanS P B' r
  | .ok (.value u) w', k => h u w' k
  | .ok .skip w', k => h undef w' k
  | .ok (.enter f args) w', k => Calls.mono k fun e w'' q => by obtain ⟨u, e, q⟩ := q; exact ⟨u, e, h u w'' q⟩
  | .halt _ _, k => k
/-- what is asked of each operation -/
def StepA (P : Program) (ops : Array Oper) (C : World → Prop) (R : World → World → Prop) (A : Nat → Value → World → Prop) (a0 : Act) (i : Nat) (o : Oper) : Prop :=
  o.guard = none ∧ ∀ (v : Nat → Value) (w : World) (ρ : Operand → Value), C w →
    (∀ c, ρ (.const c) = c) → (∀ f, ρ (.func f) = .func (.func f) #[] #[]) →
    (∀ (j : Nat) (d : Tmp), j < i → (ops[j]?).bind (·.dst) = some d → ρ (.tmp d) = v j) → (∀ t : Tmp, (∀ j, j < i → (ops[j]?).bind (·.dst) ≠ some t) → ρ (.tmp t) = a0.eval (.tmp t)) →
    (∀ e ∈ o.after, Region.binds .any e = true → A e.on (v e.on) w) →
    RanS P (fun u w' => C w' ∧ R w w' ∧ A i u w') ((execOp ρ o).run P w)
theorem stepsFrom_mono {F G : Nat → Oper → Prop} (h : ∀ i o, F i o → G i o) : ∀ (l : List Oper) (k : Nat), StepsFrom F k l → StepsFrom G k l
  | [], _, _ => trivial
  | o :: l, k, hk => ⟨h _ _ hk.1, stepsFrom_mono h l (k + 1) hk.2⟩
/-- THE LAW -/
theorem grow_res {id : Nat} {w0 : World} (C : World → Prop) (R : World → World → Prop) (A : Nat → Value → World → Prop) (hm : P.follows .mixedOrders = true) (hT : tidyB ops a0.tmps.size = true)
    (hA : ∀ i v w w', A i v w → R w w' → A i v w') (hC : C w0.drew)
    (hstep : StepsFrom (StepA P ops C R A a0) 0 ops.toList)
    (hend : ∀ (v : Nat → Value) (w : World), C w → (∀ i, i < ops.size → A i (v i) w) → Q .normal (upto ops v a0 ops.size) w) :
    (Code.region id ops true).wp P Q a0 w0 := by
  refine growS (fun L v w => C w ∧ ∀ i, L i → A i (v i) w) hm hT (fun L v hn => ⟨hC, fun i h => (hn i h).elim⟩) (stepsFrom_mono ?_ _ _ hstep) (fun L v w hc hall => hend v w hc.1 fun i hi => hc.2 i (hall i hi))
  intro i o ⟨hg, h⟩
  refine ⟨hg, fun L v w ρ hc hn hd kc kf ks ki => ?_⟩
  refine RanS.mono ?_ (h v w ρ hc.1 kc kf ks ki (fun e he hb => hc.2 _ (hd e he hb)))
  intro u w' ⟨h1, h2, h3⟩
  refine ⟨h1, fun j hj => ?_⟩
  by_cases e : j = i
  · subst e; simpa using h3
  · simp only [if_neg e]
    exact hA _ _ _ _ (hc.2 j (hj.resolve_right e)) h2
end
end Go.Proofs.Ytilajoafppplcaa
end

section
namespace Go.Proofs.Ytilajoafppplcaa
open Go.ChangeShapes Go.WideShapes Go.ChangeAt Go.RowKit
set_option linter.unusedVariables false

/-- a block's cells, and that they may be written -/
theorem blk_cell {W : World} {B : Nat} {cs : Array Value} {t : TypeId} (h : W.heap[B]? = some (.cells cs t)) (k : Nat) : W.cell? ⟨B, k, none⟩ = cs[k]? := by simp [World.cell?, h]
theorem blk_free {W : World} {B : Nat} {cs : Array Value} {t : TypeId} (h : W.heap[B]? = some (.cells cs t)) (k : Nat) : W.frozen? ⟨B, k, none⟩ = false := by simp [World.frozen?, h]
theorem blk_lt {W : World} {B : Nat} {o : Obj} (h : W.heap[B]? = some o) : B < W.heap.size := (Array.getElem?_eq_some_iff.1 h).1
theorem blk_later {W W' : World} {B : Nat} {o : Obj} (h : W.heap[B]? = some o) (hb : Below W.heap.size W W') : W'.heap[B]? = some o := (hb.block B (blk_lt h)).trans h
/-- one cell is written -/
theorem blk_set {W : World} {B : Nat} {cs : Array Value} {t : TypeId} (h : W.heap[B]? = some (.cells cs t)) (k : Nat) (v : Value) : (W.setCell ⟨B, k, none⟩ v).heap[B]? = some (.cells (cs.setIfInBounds k v) t) := heap_setCell_same W B k cs t v h
theorem blk_other {W : World} {B g : Nat} {o : Obj} (h : W.heap[g]? = some o) (hne : g ≠ B) (k : Nat) (v : Value) : (W.setCell ⟨B, k, none⟩ v).heap[g]? = some o := (Below.heap_setCell W ⟨B, k, none⟩ v g hne).trans h

theorem below_at {B b k : Nat} {a w : World} {v : Value} (h : Below B a w) (hb : B ≤ b) : Below B a (w.setCell ⟨b, k, none⟩ v) := h.setCell hb v
theorem blk_alloc {W : World} {g : Nat} {o : Obj} (h : W.heap[g]? = some o) (o2 : Obj) : (W.alloc o2).heap[g]? = some o := (Below.heap_alloc W o2 g (blk_lt h)).trans h
end Go.Proofs.Ytilajoafppplcaa
end

section
namespace Go.Proofs.Ytilajoafppplcaa
open Go.ChangeShapes Go.WideShapes Go.ChangeAt Go.RowKit
set_option linter.unusedVariables false

/-- a kind of value: what is said of it in a world -/
def Kp : Type := Value → World → Prop
def isP (x : Value) : Kp := fun v _ => v = x
def anyP : Kp := fun _ _ => True
def kpOf (ks : List Kp) (i : Nat) (v : Value) (w : World) : Prop := (ks.getD i anyP) v w
/-- it lasts while old memory stays -/
def LastsB (k : Kp) : Prop := ∀ v W W', k v W → Below W.heap.size W W' → k v W'
def AllLastB : List Kp → Prop
  | [] => True
  | k :: ks => LastsB k ∧ AllLastB ks
theorem all_lastB : ∀ (ks : List Kp), AllLastB ks → ∀ i v W W', kpOf ks i v W → Below W.heap.size W W' → kpOf ks i v W'
  | [], _, i, v, W, W', h, hg => by simp [kpOf, anyP]
  | k :: ks, hl, 0, v, W, W', h, hg => hl.1 v W W' h hg
  | k :: ks, hl, i + 1, v, W, W', h, hg => all_lastB ks hl.2 i v W W' h hg
end Go.Proofs.Ytilajoafppplcaa
end

section
namespace Go.Proofs.Ytilajoafppplcaa
open Go.ChangeShapes Go.WideShapes Go.ChangeAt Go.RowKit
open Go.ChangeMaps (open_string shut_string)
set_option linter.unusedVariables false

theorem ret_int' {k : IntKind} {a b : Int} (h : a = b) : Ending.returned (.int k a) = .returned (.int k b) := by rw [h]
theorem val_int' {k : IntKind} {a b : Int} (h : a = b) : Value.int k a = .int k b := by rw [h]

def bytesV (l : List UInt8) : List Value := l.map fun c => .int .u8 (c.toNat : Int)
theorem bytesV_snoc (l : List UInt8) (c : UInt8) : bytesV (l ++ [c]) = bytesV l ++ [.int .u8 (c.toNat : Int)] := by simp [bytesV]

theorem Try.infoU8 : (Try.prog.info? 5).map (fun i => (i.zero, i.size, i.bytes)) = some (some (.int .u8 0), 1, 1) := by kernel_rfl

theorem heap_new (w : World) (o : Obj) : (w.alloc o).heap[w.heap.size]? = some o := by show (w.heap.push o)[w.heap.size]? = _; simp

/-- a slice that owns the bytes l, as a string -/
theorem conv_own {w : World} {B : Nat} {v : Value} {l : List UInt8} (h : w.ownsRow B 5 1 v l.length (bytesV l)) :
    (convert 22 9 v).run Try.prog w = .ok (.string ⟨l.toArray⟩) w := by
  have h0 := h
  rcases h.2 with ⟨rfl, hn⟩ | ⟨g, cap, cur, rfl, hg, hh, hnc, hcp, hcs, htake⟩
  · obtain rfl : l = [] := List.length_eq_zero_iff.1 hn
    rw [run_convert_bytes_string w 22 9 5 none 0 0 Try.underlying22 Try.underlying5 Try.underlying9]
    simp [Conv.bytesToString]
    rfl
  · exact run_convert_bytes_back (P := Try.prog) w 22 9 5 ⟨g, 0, none⟩ cap l Try.underlying22 Try.underlying5 Try.underlying9 (fun j hj => by
      rw [Addr.add_lit, Nat.zero_add, h0.cellAt j (by omega)]
      simp [bytesV, hj])

theorem own_snoc {w : World} {B : Nat} {v : Value} {l : List UInt8} {c : UInt8} {x : Int} (hx : x = (c.toNat : Int)) (h : w.ownsRow B 5 1 v (l.length + 1) (bytesV l ++ [.int .u8 x])) :
    w.ownsRow B 5 1 v (l ++ [c]).length (bytesV (l ++ [c])) := by
  rw [bytesV_snoc, List.length_append, ← hx]; exact h

/-- behind a byte that was appended to a slice of the call's own -/
theorem below_app {B : Nat} {w wr w1 : World} {v : Value} {n : Nat} {xs : List Value} {o : Obj} (hbel : Below B w wr) (hB : B ≤ wr.heap.size) (hown : wr.ownsRow B 5 1 v n xs) (hg : (wr.alloc o).grownBy w1 v.ownBlock) : Below B w w1 :=
  (hbel.alloc hB o).grown hg (by simp; omega) (fun k hk => (hown.lt k hk).1)
end Go.Proofs.Ytilajoafppplcaa
end
