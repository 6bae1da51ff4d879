/- Proved here: nothing of a program: what WalkNew, WalkStep and WalkEnd answer, in plain words. · Proved here: nothing of a program: a copied slab, laid open; two rows are a slab of one's own. · Proved here: nothing of a program: kinds of values that are walkers' answers, how they stand to a block that is made, told in a region. · Proved here: a law on regions that draw their order (no program of its own): a class of worlds that knows which operations have come up, and with which values, lasts to the region's end, in whatever order. · Proved here: a law on regions that draw their order and store into blocks of the call's own (no program of its own): a class of worlds lasts, each operation's value keeps what is said of it. -/
import Derived.Test.YtfjgofmjhccdkaaAll11
import Derived.Test.YtfjgofmjhccdkaaAll10
import Derived.Test.YtfjgofmjhccdkaaAll1
import Derived.Test.YtfjgofmjhccdkaaGrow
section
namespace Go.Proofs.Ytfjgofmjhccdkaa
open Go.ChangeShapes Go.WideShapes Go.ChangeAt Go.RowKit
set_option linter.unusedVariables false
set_option linter.unusedSimpArgs false
set_option maxRecDepth 100000

/-- an answer that hands a slab and a walker back, with a code -/
def WkAns (s : Slb) (k : Wlk) (code : Int) (w : World) (e : Ending) (w' : World) : Prop :=
  ∃ aS cS aH cH, e = .returned (.agg #[.slice aS s.slots.length cS, .slice aH s.heads.length cH, .int .i64 k.key, .int .i64 k.cur, .int .i64 k.stage, .int .i64 k.state, .int .i64 k.slot, .int .i64 k.gen, .int .i64 k.steps, .int .i64 code]) ∧ SlabO w.heap.size w'.heap.size aS aH s w' ∧ Below w.heap.size w w'
def zeroW : Wlk := ⟨0, 0, 0, 0, 0, 0, 0⟩
theorem ill_walk {c : Int} {w w' : World} {e : Ending} (h : e = .returned (.agg #[.slice none 0 0, .slice none 0 0, .int .i64 0, .int .i64 0, .int .i64 0, .int .i64 0, .int .i64 0, .int .i64 0, .int .i64 0, .int .i64 c]) ∧ Below w.heap.size w w') : WkAns ⟨[], []⟩ zeroW c w e w' :=
  ⟨none, 0, none, 0, h.1, ⟨.inl rfl, .inl rfl, fun _ _ _ _ e => by cases e⟩, h.2⟩
/-- the code of WalkNew, and what it answers -/
def newC (s : Slb) (key : Int) : Int := if (rightSl s && keyB key) = true then 0 else 1
def newWS (s : Slb) (key : Int) : Slb := if newC s key = 0 then s else ⟨[], []⟩
def newWW (s : Slb) (key : Int) : Wlk := if newC s key = 0 then ⟨key, hdK s key, 0, 0, 0, 0, 0⟩ else zeroW
/-- the code of WalkStep, and what it answers -/
def stepC (s : Slb) (k : Wlk) : Int := if wkRight s k = true then (if k.state = 0 then (if k.steps < 1000000 then 0 else 9) else 10) else 1
def stepWS (s : Slb) (k : Wlk) : Slb := if stepC s k = 0 then (stepP s k).1 else ⟨[], []⟩
def stepWW (s : Slb) (k : Wlk) : Wlk := if stepC s k = 0 then (stepP s k).2 else zeroW
/-- the code of WalkEnd, and what it answers -/
def endC (s : Slb) (k : Wlk) (n : Int) : Int := if (wkRight s k && (decide (0 ≤ n) && decide (n ≤ 100))) = true then 0 else 1
def endWS (s : Slb) (k : Wlk) (n : Int) : Slb := if endC s k n = 0 then (runP n.toNat s k).1 else ⟨[], []⟩
def endWW (s : Slb) (k : Wlk) (n : Int) : Wlk := if endC s k n = 0 then (runP n.toNat s k).2 else zeroW
theorem stepC_ok {s : Slb} {k : Wlk} (h : stepC s k = 0) : rightSl s = true ∧ wkR s k = true ∧ goB k = true := by
  unfold stepC at h
  by_cases hw : wkRight s k = true
  · rw [if_pos hw] at h
    unfold wkRight at hw
    simp only [Bool.and_eq_true] at hw
    by_cases h0 : k.state = 0
    · rw [if_pos h0] at h
      by_cases h1 : k.steps < 1000000
      · exact ⟨hw.1, hw.2, by unfold goB; simp [h0, h1]⟩
      · rw [if_neg h1] at h; cases h
    · rw [if_neg h0] at h; cases h
  · rw [if_neg hw] at h; cases h
theorem run_len : ∀ (n : Nat) (s : Slb) (k : Wlk), (runP n s k).1.slots.length = s.slots.length ∧ (runP n s k).1.heads = s.heads
  | 0, s, k => ⟨rfl, rfl⟩
  | n + 1, s, k => by
    cases h : goB k
    · rw [run_stop h]; exact ⟨rfl, rfl⟩
    · rw [run_go h]
      obtain ⟨e1, e2⟩ := run_len n (stepP s k).1 (stepP s k).2
      obtain ⟨_, _, q1, q2⟩ := step_key s k
      exact ⟨e1.trans q2, e2.trans q1⟩
/-- own memory and others' -/
theorem Tch.own {b a : Nat} {w w' : World} (h : Tch b w w') (ha : w.heap.size ≤ a) (o : Nat) (v : Value) : Tch b w (w'.setCell ⟨a, o, none⟩ v) :=
  ⟨h.os, h.tape, h.output, by simp only [World.setCell, Array.size_modify]; exact h.size, fun k hk hb => (Below.heap_setCell w' ⟨a, o, none⟩ v k (by show k ≠ a; omega)).trans (h.block k hk hb)⟩
theorem Tch.later {b : Nat} {w w' w'' : World} (h : Tch b w w') (hb : Below w'.heap.size w' w'') : Tch b w w'' :=
  ⟨hb.os.trans h.os, hb.tape.trans h.tape, hb.output.trans h.output, Nat.le_trans h.size hb.size, fun k hk ho => (hb.block k (Nat.lt_of_lt_of_le hk h.size)).trans (h.block k hk ho)⟩
theorem Tch.trans {b : Nat} {w w' w'' : World} (h : Tch b w w') (k : Tch b w' w'') : Tch b w w'' :=
  ⟨k.os.trans h.os, k.tape.trans h.tape, k.output.trans h.output, Nat.le_trans h.size k.size, fun i hi ho => (k.block i (Nat.lt_of_lt_of_le hi h.size) ho).trans (h.block i hi ho)⟩
theorem blk_tch {b g : Nat} {w w' : World} {o : Obj} (h : w.heap[g]? = some o) (ht : Tch b w w') (hne : g ≠ b) : w'.heap[g]? = some o := (ht.block g (blk_lt h) hne).trans h
end Go.Proofs.Ytfjgofmjhccdkaa
end

section
namespace Go.Proofs.Ytfjgofmjhccdkaa
open Go.ChangeShapes Go.WideShapes Go.ChangeAt Go.RowKit
set_option linter.unusedVariables false
set_option linter.unusedSimpArgs false
set_option maxRecDepth 100000

/-- a copied slab, laid open -/
theorem SlabAns.rows {s : Slb} {w w' : World} {e : Ending} (h : SlabAns s w e w') (n1 : 1 ≤ s.slots.length) (n3 : 1 ≤ s.heads.length) :
    ∃ b2 o2 cS2 b3 o3 cH2, e = .returned (.agg #[.slice (some ⟨b2, o2, none⟩) s.slots.length cS2, .slice (some ⟨b3, o3, none⟩) s.heads.length cH2]) ∧ w.heap.size ≤ b2 ∧ w.heap.size ≤ b3 ∧ b2 ≠ b3 ∧ RowB b2 o2 (flat s.slots) w' ∧ RowB b3 o3 s.heads w' ∧ Below w.heap.size w w' := by
  obtain ⟨aS, cS, aH, cH, rfl, hO, hb⟩ := h
  obtain ⟨b2, o2, rfl, p1, p2, p3⟩ : ∃ b o, aS = some ⟨b, o, none⟩ ∧ w.heap.size ≤ b ∧ b < w'.heap.size ∧ RowB b o (flat s.slots) w' := by
    rcases hO.slots with e | h
    · have := flat_len s.slots; rw [e] at this; simp at this; omega
    · exact h
  obtain ⟨b3, o3, rfl, q1, q2, q3⟩ : ∃ b o, aH = some ⟨b, o, none⟩ ∧ w.heap.size ≤ b ∧ b < w'.heap.size ∧ RowB b o s.heads w' := by
    rcases hO.heads with e | h
    · rw [e] at n3; simp at n3
    · exact h
  exact ⟨b2, o2, cS, b3, o3, cH, rfl, p1, q1, hO.two _ _ _ _ rfl rfl (fun e => by rw [e] at n1; simp at n1) (fun e => by rw [e] at n3; simp at n3), p3, q3, hb⟩
/-- two rows are a slab of one's own -/
theorem rows_own {lo b2 o2 b3 o3 : Nat} {t : Slb} {W : World} (h1 : lo ≤ b2) (h2 : lo ≤ b3) (hne : b2 ≠ b3) (p : RowB b2 o2 (flat t.slots) W) (q : RowB b3 o3 t.heads W) : SlabO lo W.heap.size (some ⟨b2, o2, none⟩) (some ⟨b3, o3, none⟩) t W := by
  refine ⟨.inr ⟨b2, o2, rfl, h1, p.lt, p⟩, .inr ⟨b3, o3, rfl, h2, q.lt, q⟩, ?_⟩
  intro b o c p e1 e2 _ _
  injection e1 with e1; injection e1 with e1
  injection e2 with e2; injection e2 with e2
  omega
theorem SlabO.low {lo lo' hi : Nat} {aS aH : Option Addr} {s : Slb} {W : World} (h : SlabO lo hi aS aH s W) (hl : lo' ≤ lo) : SlabO lo' hi aS aH s W := by
  refine ⟨?_, ?_, h.two⟩
  · rcases h.slots with e | ⟨b, o, e, q1, q2, q3⟩
    · exact .inl e
    · exact .inr ⟨b, o, e, by omega, q2, q3⟩
  · rcases h.heads with e | ⟨b, o, e, q1, q2, q3⟩
    · exact .inl e
    · exact .inr ⟨b, o, e, by omega, q2, q3⟩
theorem SlabO.other {lo g k : Nat} {aS aH : Option Addr} {s : Slb} {W : World} {v : Value} (h : SlabO lo W.heap.size aS aH s W) (hg : g < lo) : SlabO lo (W.setCell ⟨g, k, none⟩ v).heap.size aS aH s (W.setCell ⟨g, k, none⟩ v) := by
  have e : (W.setCell ⟨g, k, none⟩ v).heap.size = W.heap.size := by simp [World.setCell]
  rw [e]
  refine ⟨?_, ?_, h.two⟩
  · rcases h.slots with e | ⟨b, o, e, q1, q2, q3⟩
    · exact .inl e
    · exact .inr ⟨b, o, e, q1, q2, q3.other (by omega)⟩
  · rcases h.heads with e | ⟨b, o, e, q1, q2, q3⟩
    · exact .inl e
    · exact .inr ⟨b, o, e, q1, q2, q3.other (by omega)⟩
end Go.Proofs.Ytfjgofmjhccdkaa
end

section
namespace Go.Proofs.Ytfjgofmjhccdkaa
open Go.ChangeShapes Go.WideShapes Go.ChangeAt Go.RowKit
set_option linter.unusedVariables false
set_option linter.unusedSimpArgs false
set_option maxRecDepth 100000

/-- a slab -/
def slabR (u : Slb) : Kp := fun v W => ∃ (aS : Option Addr) (cS : Nat) (aH : Option Addr) (cH : Nat), v = .agg #[.slice aS u.slots.length cS, .slice aH u.heads.length cH] ∧ SlabZ aS aH u W
theorem slabR_last (u : Slb) : LastsB (slabR u) := fun v W W' h hb => by
  obtain ⟨aS, cS, aH, cH, e, hz⟩ := h
  exact ⟨aS, cS, aH, cH, e, hz.later hb⟩
/-- an answer of its own memory -/
def woK (lo0 : Nat) (t : Slb) (k : Wlk) (c : Int) : Kp := fun v W => ∃ (aS : Option Addr) (cS : Nat) (aH : Option Addr) (cH lo hi : Nat), v = .agg #[.slice aS t.slots.length cS, .slice aH t.heads.length cH, .int .i64 k.key, .int .i64 k.cur, .int .i64 k.stage, .int .i64 k.state, .int .i64 k.slot, .int .i64 k.gen, .int .i64 k.steps, .int .i64 c] ∧ SlabO lo hi aS aH t W ∧ lo0 ≤ lo ∧ lo ≤ hi ∧ hi ≤ W.heap.size
theorem woK_last (lo0 : Nat) (t : Slb) (k : Wlk) (c : Int) : LastsB (woK lo0 t k c) := fun v W W' h hb => by
  obtain ⟨aS, cS, aH, cH, lo, hi, e, hz, h1, h2, h3⟩ := h
  exact ⟨aS, cS, aH, cH, lo, hi, e, hz.later hb, h1, h2, Nat.le_trans h3 hb.size⟩
/-- a block that was made -/
def madeK (lo0 : Nat) (cs : Array Value) (ty : TypeId) : Kp := fun v W => ∃ B, v = .pointer (some ⟨B, 0, none⟩) ∧ lo0 ≤ B ∧ W.heap[B]? = some (.cells cs ty)
theorem madeK_last (lo0 : Nat) (cs : Array Value) (ty : TypeId) : LastsB (madeK lo0 cs ty) := fun v W W' h hb => by
  obtain ⟨B, e, h1, h2⟩ := h
  exact ⟨B, e, h1, blk_later h2 hb⟩
/-- how both stand to each other -/
def woR (lo0 : Nat) (t : Slb) (k : Wlk) (c : Int) : Value → Value → World → Prop := fun vc vx W => ∃ (aS : Option Addr) (cS : Nat) (aH : Option Addr) (cH lo hi B : Nat), vc = .agg #[.slice aS t.slots.length cS, .slice aH t.heads.length cH, .int .i64 k.key, .int .i64 k.cur, .int .i64 k.stage, .int .i64 k.state, .int .i64 k.slot, .int .i64 k.gen, .int .i64 k.steps, .int .i64 c] ∧ vx = .pointer (some ⟨B, 0, none⟩) ∧ SlabO lo hi aS aH t W ∧ lo0 ≤ lo ∧ lo ≤ hi ∧ hi ≤ W.heap.size ∧ lo0 ≤ B ∧ (B < lo ∨ hi ≤ B) ∧ B < W.heap.size
theorem woR_last (lo0 : Nat) (t : Slb) (k : Wlk) (c : Int) : ∀ a b W W', woR lo0 t k c a b W → Below W.heap.size W W' → woR lo0 t k c a b W' := fun a b W W' h hb => by
  obtain ⟨aS, cS, aH, cH, lo, hi, B, e1, e2, hz, h1, h2, h3, h4, h5, h6⟩ := h
  exact ⟨aS, cS, aH, cH, lo, hi, B, e1, e2, hz.later hb, h1, h2, Nat.le_trans h3 hb.size, h4, h5, Nat.lt_of_lt_of_le h6 hb.size⟩
theorem woR_call {lo0 : Nat} {t : Slb} {k : Wlk} {c : Int} {cs : Array Value} {ty : TypeId} {W W' : World} {vx : Value} {aS aH : Option Addr} {cS cH : Nat} (hx : madeK lo0 cs ty vx W) (hO : SlabO W.heap.size W'.heap.size aS aH t W') (h0 : lo0 ≤ W.heap.size) (hb : Below W.heap.size W W') :
    woR lo0 t k c (.agg #[.slice aS t.slots.length cS, .slice aH t.heads.length cH, .int .i64 k.key, .int .i64 k.cur, .int .i64 k.stage, .int .i64 k.state, .int .i64 k.slot, .int .i64 k.gen, .int .i64 k.steps, .int .i64 c]) vx W' := by
  obtain ⟨B, e, h1, h2⟩ := hx
  exact ⟨aS, cS, aH, cH, W.heap.size, W'.heap.size, B, rfl, e, hO, h0, hb.size, Nat.le_refl _, h1, .inl (blk_lt h2), Nat.lt_of_lt_of_le (blk_lt h2) hb.size⟩
theorem woR_made {lo0 : Nat} {t : Slb} {k : Wlk} {c : Int} {W : World} {vc : Value} (o : Obj) (hc : woK lo0 t k c vc W) (h0 : lo0 ≤ W.heap.size) : woR lo0 t k c vc (.pointer (some ⟨W.heap.size, 0, none⟩)) (W.alloc o) := by
  obtain ⟨aS, cS, aH, cH, lo, hi, e, hz, h1, h2, h3⟩ := hc
  exact ⟨aS, cS, aH, cH, lo, hi, W.heap.size, e, rfl, hz.later ((Below.refl _ _).alloc (Nat.le_refl _) _), h1, h2, by simp; omega, h0, .inr h3, by simp⟩
end Go.Proofs.Ytfjgofmjhccdkaa
end

section
namespace Go.Proofs.Ytfjgofmjhccdkaa
open Go.ChangeShapes Go.WideShapes Go.ChangeAt Go.RowKit
set_option linter.unusedVariables false
set_option linter.unusedSimpArgs false

section
variable {P : Program} {ops : Array Oper} {Q : Exit → Act → World → Prop} {a0 : Act} {C : (Nat → Prop) → (Nat → Value) → World → Prop}

/-- what an operation has come to -/
def RanS (P : Program) (B : Value → World → Prop) : Result Next → Prop
  | .ok (.value u) w' => B u w'
  | .ok .skip w' => B undef w'
  | .ok (.enter f args) w' => Calls P f args w' fun e w'' => ∃ u, e = .returned u ∧ B u w''
  | _ => False
/-- what is asked of each operation, whatever has come up ahead of it -/
def StepS (P : Program) (ops : Array Oper) (C : (Nat → Prop) → (Nat → Value) → World → Prop) (a0 : Act) (i : Nat) (o : Oper) : Prop :=
  o.guard = none ∧ ∀ (L : Nat → Prop) (v : Nat → Value) (w : World) (ρ : Operand → Value), C L v w → ¬ L i → (∀ e ∈ o.after, Region.binds .any e = true → L e.on) →
    (∀ c, ρ (.const c) = c) → (∀ f, ρ (.func f) = .func (.func f) #[] #[]) →
    (∀ (j : Nat) (d : Tmp), j < i → (ops[j]?).bind (·.dst) = some d → ρ (.tmp d) = v j) → (∀ t : Tmp, (∀ j, j < i → (ops[j]?).bind (·.dst) ≠ some t) → ρ (.tmp t) = a0.eval (.tmp t)) →
    RanS P (fun u w' => C (fun j => L j ∨ j = i) (fun j => if j = i then u else v j) w') ((execOp ρ o).run P w)

theorem growS_any (T : Tidy ops a0.tmps.size) (hstep : ∀ (i : Nat) (o : Oper), ops[i]? = some o → StepS P ops C a0 i o)
    (hend : ∀ (L : Nat → Prop) (v : Nat → Value) (w : World), C L v w → (∀ i, i < ops.size → L i) → Q .normal (upto ops v a0 ops.size) w) :
    ∀ (fuel : Nat) (listed : Array Bool) (a : Act) (w : World) (v : Nat → Value), listed.size = ops.size → left ops listed ≤ fuel →
      InF ops v a0 (fun i => listed.getD i false = true) a → (∀ (j : Nat) (oj : Oper), ops[j]? = some oj → listed.getD j false = true → ∀ e ∈ oj.after, Region.binds .any e = true → listed.getD e.on false = true) →
      C (fun i => listed.getD i false = true) v w → wpAny P .any ops (NoPanic Q) fuel listed a w := by
  intro fuel
  have fin : ∀ (listed : Array Bool) (a : Act) (w : World) (v : Nat → Value), listed.size = ops.size → InF ops v a0 (fun i => listed.getD i false = true) a →
      C (fun i => listed.getD i false = true) v w → Region.ready .any ops listed = [] → NoPanic Q .normal a w := by
    intro listed a w v hsz hF hC hr
    have hall := ready_all T hr
    have h1 := hend _ v w hC (fun i hi => hall i hi hsz)
    have h2 : InF ops v a0 (fun i => listed.getD i false = true) (upto ops v a0 ops.size) := (InF.upto T ops.size (Nat.le_refl _)).congr (fun i hi => ⟨fun _ => hall i hi hsz, fun _ => hi⟩) (fun _ _ => rfl)
    rw [hF.ext h2]
    exact h1
  induction fuel with
  | zero =>
    intro listed a w v hsz hfuel hF hcl hC
    have hr : Region.ready .any ops listed = [] := by
      cases hq : Region.ready .any ops listed with
      | nil => rfl
      | cons x xs =>
        have hx : x ∈ Region.ready .any ops listed := by rw [hq]; exact List.mem_cons_self
        obtain ⟨h0, o, ho, _⟩ := mem_ready.1 hx
        have hlt : x < ops.size := (Array.getElem?_eq_some_iff.1 ho).1
        have : x ∈ (List.range ops.size).filter fun i => !listed.getD i true := List.mem_filter.2 ⟨List.mem_range.2 hlt, by rw [h0]; rfl⟩
        have h3 : ((List.range ops.size).filter fun i => !listed.getD i true).length = 0 := by unfold left at hfuel; omega
        rw [List.length_eq_zero_iff.1 h3] at this
        cases this
    exact ⟨hr, fin listed a w v hsz hF hC hr⟩
  | succ fuel ih =>
    intro listed a w v hsz hfuel hF hcl hC
    refine ⟨fin listed a w v hsz hF hC, fun i hi => ?_⟩
    obtain ⟨h0, o, ho, hdep⟩ := mem_ready.1 hi
    have hlt : i < ops.size := (Array.getElem?_eq_some_iff.1 ho).1
    have hltl : i < listed.size := by omega
    have hL : ¬ listed.getD i false = true := by simp [Array.getD, hltl] at h0 ⊢; exact h0
    have hU := InF.upto (v := v) T i (by omega)
    have hag := fun t ht => InF.agree T hF hU ho hL hdep hcl t ht
    have hset : ∀ j, (listed.setIfInBounds i true).getD j false = true ↔ (listed.getD j false = true ∨ j = i) := by
      intro j
      by_cases e : j = i
      · subst e; simp [Array.getD, hltl]
      · simp only [Array.getD_eq_getD_getElem?, Array.getElem?_setIfInBounds_ne (Ne.symm e), e, or_false]
    have hsetF : (fun j => (listed.setIfInBounds i true).getD j false = true) = (fun j => listed.getD j false = true ∨ j = i) := funext fun j => propext (hset j)
    have next : ∀ u w', C (fun j => listed.getD j false = true ∨ j = i) (fun j => if j = i then u else v j) w' → wpAny P .any ops (NoPanic Q) fuel (listed.setIfInBounds i true) (a.put o.dst u) w' := by
      intro u w' hC'
      refine ih _ _ _ (fun j => if j = i then u else v j) (by simpa using hsz) ?_ ?_ ?_ (by rw [hsetF]; exact hC')
      · have : left ops (listed.setIfInBounds i true) < left ops listed := filter_less (p := fun j => !listed.getD j true) (q := fun j => !(listed.setIfInBounds i true).getD j true) (j := i) (by
            intro j hj
            by_cases e : j = i
            · subst e; simp [Array.getD, hltl] at hj
            · simpa only [Array.getD_eq_getD_getElem?, Array.getElem?_setIfInBounds_ne (Ne.symm e)] using hj) (by simp only [h0]; rfl) (by simp [Array.getD, hltl]) _ (List.mem_range.2 hlt)
        omega
      · exact (hF.put T ho u).congr (fun j _ => (hset j).symm) (fun _ _ => rfl)
      · intro j oj hj hlj e he hb
        rcases (hset j).1 hlj with h | rfl
        · exact (hset _).2 (.inl (hcl j oj hj h e he hb))
        · rw [ho] at hj
          injection hj with hj
          subst hj
          exact (hset _).2 (.inl (hdep e he hb))
    unfold wpOp
    simp only [ho]
    obtain ⟨hg, hst⟩ := hstep i o ho
    have hw : Region.wanted o (yielded ops a.tmps) = true := by simp [Region.wanted, hg]
    simp only [hw, if_true]
    refine .inl (wp_carry (exec_agree (fun cs b => T.sel i o cs b ho) hag) (hU.defers.trans hF.defers.symm) (fun d hd => by rw [hU.size]; exact T.lt i o d ho hd) ?_)
    have hr := hst (fun j => listed.getD j false = true) v w (upto ops v a0 i).eval hC hL (fun e he hb => hdep e he hb) (fun _ => rfl) (fun _ => rfl) (fun j d hj hjd => by
        obtain ⟨oj, hoj, hdj⟩ := Option.bind_eq_some_iff.1 hjd
        simp only [Act.eval, Array.getD_eq_getD_getElem?, hU.done j oj d hoj hdj hj, Option.getD_some]) (fun t ht => by
        have := hU.rest t (fun j oj hoj hj hdj => ht j hj (by rw [hoj]; exact hdj))
        simp only [Act.eval, Array.getD_eq_getD_getElem?, this])
    have e1 : ∀ u, (⟨(a.put o.dst (match o.dst with | some d => ((upto ops v a0 i).put o.dst u).tmps.getD d undef | none => undef)).tmps, ((upto ops v a0 i).put o.dst u).defers⟩ : Act) = a.put o.dst u := by
      intro u
      cases hod : o.dst with
      | none => simp only [Act.put]; rw [hU.defers, ← hF.defers]
      | some d =>
        have h1 : ((upto ops v a0 i).tmps.setIfInBounds d u).getD d undef = u := by
          rw [Array.getD_eq_getD_getElem?, Array.getElem?_setIfInBounds_self_of_lt (by rw [hU.size]; exact T.lt i o d ho hod)]; rfl
        simp only [Act.put, h1]
        rw [hU.defers, ← hF.defers]
    unfold Oper.wp
    generalize (execOp (upto ops v a0 i).eval o).run P w = r at hr
    cases r with
    | halt x w' => exact hr.elim
    | ok n w' =>
      cases n <;> simp only [RanS] at hr <;> simp only [Oper.upon]
      case value u => exact Eq.mpr (congrArg (fun z => wpAny P .any ops (NoPanic Q) fuel (listed.setIfInBounds i true) z w') (e1 u)) (next u w' hr)
      case skip => exact Eq.mpr (congrArg (fun z => wpAny P .any ops (NoPanic Q) fuel (listed.setIfInBounds i true) z w') (e1 undef)) (next undef w' hr)
      case enter f args =>
        refine Calls.mono hr fun e w'' q => ?_
        obtain ⟨u, rfl, h1⟩ := q
        exact Eq.mpr (congrArg (fun z => wpAny P .any ops (NoPanic Q) fuel (listed.setIfInBounds i true) z w'') (e1 u)) (next u w'' h1)

/-- THE LAW: a region that draws its order, over a class that knows what has come up -/
theorem growS {id : Nat} {w0 : World} (C : (Nat → Prop) → (Nat → Value) → World → Prop) (hm : P.follows .mixedOrders = true) (hT : tidyB ops a0.tmps.size = true) (hC : ∀ L v, (∀ i, ¬ L i) → C L v w0.drew)
    (hstep : StepsFrom (StepS P ops C a0) 0 ops.toList)
    (hend : ∀ (L : Nat → Prop) (v : Nat → Value) (w : World), C L v w → (∀ i, i < ops.size → L i) → Q .normal (upto ops v a0 ops.size) w) :
    (Code.region id ops true).wp P Q a0 w0 := by
  refine wp_region_noPanic (wp_region_any hm ?_)
  have T := tidy_of hT
  have hrep : ∀ i, (Array.replicate ops.size false).getD i false = true → False := by
    intro i h
    rw [Array.getD_eq_getD_getElem?] at h
    by_cases hi : i < ops.size
    · simp [hi] at h
    · simp [Array.getElem?_eq_none (show (Array.replicate ops.size false).size ≤ i by simp; omega)] at h
  refine growS_any T (fun i o ho => by
    have := steps_from ops.toList 0 hstep i o (by simpa using ho)
    rwa [Nat.zero_add] at this) hend ops.size _ a0 _ (fun _ => undef) (by simp) ?_ ⟨rfl, rfl, fun i _ _ _ _ h => (hrep i h).elim, fun _ _ => rfl⟩ (fun j _ _ h => (hrep j h).elim) (hC _ _ (fun i h => hrep i h))
  unfold left
  exact Nat.le_trans (List.length_filter_le _ _) (by simp)
end
end Go.Proofs.Ytfjgofmjhccdkaa
end

section
namespace Go.Proofs.Ytfjgofmjhccdkaa
open Go.ChangeShapes Go.WideShapes Go.ChangeAt Go.RowKit
set_option linter.unusedVariables false
set_option linter.unusedSimpArgs false

section
variable {P : Program} {ops : Array Oper} {Q : Exit → Act → World → Prop} {a0 : Act}

theorem RanS.mono {B B' : Value → World → Prop} (h : ∀ u w, B u w → B' u w) : ∀ {r : Result Next}, RanS P B r → RanS P B' r
  | .ok (.value u) w', k => h u w' k
  | .ok .skip w', k => h undef w' k
  | .ok (.enter f args) w', k => Calls.mono k fun e w'' q => by obtain ⟨u, e, q⟩ := q; exact ⟨u, e, h u w'' q⟩
  | .halt _ _, k => k
/-- what is asked of each operation -/
def StepA (P : Program) (ops : Array Oper) (C : World → Prop) (R : World → World → Prop) (A : Nat → Value → World → Prop) (a0 : Act) (i : Nat) (o : Oper) : Prop :=
  o.guard = none ∧ ∀ (v : Nat → Value) (w : World) (ρ : Operand → Value), C w →
    (∀ c, ρ (.const c) = c) → (∀ f, ρ (.func f) = .func (.func f) #[] #[]) →
    (∀ (j : Nat) (d : Tmp), j < i → (ops[j]?).bind (·.dst) = some d → ρ (.tmp d) = v j) → (∀ t : Tmp, (∀ j, j < i → (ops[j]?).bind (·.dst) ≠ some t) → ρ (.tmp t) = a0.eval (.tmp t)) →
    (∀ e ∈ o.after, Region.binds .any e = true → A e.on (v e.on) w) →
    RanS P (fun u w' => C w' ∧ R w w' ∧ A i u w') ((execOp ρ o).run P w)
theorem stepsFrom_mono {F G : Nat → Oper → Prop} (h : ∀ i o, F i o → G i o) : ∀ (l : List Oper) (k : Nat), StepsFrom F k l → StepsFrom G k l
  | [], _, _ => trivial
  | o :: l, k, hk => ⟨h _ _ hk.1, stepsFrom_mono h l (k + 1) hk.2⟩
/-- THE LAW -/
theorem grow_res {id : Nat} {w0 : World} (C : World → Prop) (R : World → World → Prop) (A : Nat → Value → World → Prop) (hm : P.follows .mixedOrders = true) (hT : tidyB ops a0.tmps.size = true)
    (hA : ∀ i v w w', A i v w → R w w' → A i v w') (hC : C w0.drew)
    (hstep : StepsFrom (StepA P ops C R A a0) 0 ops.toList)
    (hend : ∀ (v : Nat → Value) (w : World), C w → (∀ i, i < ops.size → A i (v i) w) → Q .normal (upto ops v a0 ops.size) w) :
    (Code.region id ops true).wp P Q a0 w0 := by
  refine growS (fun L v w => C w ∧ ∀ i, L i → A i (v i) w) hm hT (fun L v hn => ⟨hC, fun i h => (hn i h).elim⟩) (stepsFrom_mono ?_ _ _ hstep) (fun L v w hc hall => hend v w hc.1 fun i hi => hc.2 i (hall i hi))
  intro i o ⟨hg, h⟩
  refine ⟨hg, fun L v w ρ hc hn hd kc kf ks ki => ?_⟩
  refine RanS.mono ?_ (h v w ρ hc.1 kc kf ks ki (fun e he hb => hc.2 _ (hd e he hb)))
  intro u w' ⟨h1, h2, h3⟩
  refine ⟨h1, fun j hj => ?_⟩
  by_cases e : j = i
  · subst e; simpa using h3
  · simp only [if_neg e]
    exact hA _ _ _ _ (hc.2 j (hj.resolve_right e)) h2
end
end Go.Proofs.Ytfjgofmjhccdkaa
end
