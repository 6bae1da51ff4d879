/- Proved here: a law on a region inside a fence that draws its order, whose first operations only read and come ahead of all others (no program of its own). · Proved here: impl.portsOf's own function hands each port of a rule once to whatever body, from where start comes to stand (conditions: a right rule, a time). -/
import Derived.Test.YtilajoafppplcaaGrow
import Derived.OrdersIn
import Derived.CallsIn
import Derived.RangeFuncBox
import Derived.RangeFuncLeaves
import Derived.Shelf.Abstract
import Derived.WalkKit
import Derived.OwnWalkIn
import Derived.TacticsInMore
import Derived.RegionIn
import Derived.LoopNIn
import Derived.LoopIn
import Derived.Test.YtilajoafppplcaaAll17
import Derived.Test.YtilajoafppplcaaAll1
section
namespace Go.Proofs.Ytilajoafppplcaa
open Go.ChangeShapes Go.WideShapes Go.ChangeAt Go.RowKit
set_option linter.unusedVariables false
variable {F : Fence} {n : Nat} {P : Program} {ops : Array Oper} {Q : Exit → Act → World → Prop} {a0 : Act}

/-- each of the first m is waited for by one behind it, up to number m; those behind number m wait for one from m on -/
def waitB (ops : Array Oper) (m : Nat) : Bool := lastB ops m && (List.range ops.size).all fun i => decide (i ≤ m) || (match ops[i]? with
  | some o => o.after.any fun e => Region.binds .any e && decide (m ≤ e.on)
  | none => false)
theorem wait_all {m : Nat} (h : lastB ops m = true) {L : Nat → Prop} (hcl : ∀ (j : Nat) (oj : Oper), ops[j]? = some oj → L j → ∀ e ∈ oj.after, Region.binds .any e = true → L e.on)
    {o : Oper} (ho : ops[m]? = some o) (hdep : ∀ e ∈ o.after, Region.binds .any e = true → L e.on) : ∀ d j, j < m → m - j ≤ d → L j := by
  intro d
  induction d with
  | zero => intro j hj hd; omega
  | succ d ih =>
    intro j hj hd
    have h2 := List.all_eq_true.1 h j (List.mem_range.2 hj)
    obtain ⟨i, hi, h3⟩ := List.any_eq_true.1 h2
    simp only [Bool.and_eq_true, decide_eq_true_eq] at h3
    obtain ⟨h4, h5⟩ := h3
    have him := List.mem_range.1 hi
    cases hoi : ops[i]? with
    | none => rw [hoi] at h5; cases h5
    | some oi =>
      rw [hoi] at h5
      obtain ⟨e, he, h6⟩ := Array.any_eq_true'.1 h5
      simp only [Bool.and_eq_true, beq_iff_eq] at h6
      rw [← h6.2]
      by_cases e1 : i = m
      · subst e1
        rw [ho] at hoi
        injection hoi with hoi
        subst hoi
        exact hdep e he h6.1
      · exact hcl i oi hoi (ih i (by omega) (by omega)) e he h6.1
theorem quiet_go (m : Nat) (hm : m ≤ ops.size) (v : Nat → Value) (C : World → Prop) (hfn : ∀ f, F.fn f) (T : Tidy ops a0.tmps.size) (hw : waitB ops m = true)
    (hstep : ∀ (j : Nat) (o : Oper), j < m → ops[j]? = some o → o.guard = none ∧ (∀ c, o.op ≠ .defer c) ∧ ∀ w, C w → (execOp (upto ops v a0 j).eval o).run P w = .ok (.value (v j)) w ∨
      ∃ f args, (execOp (upto ops v a0 j).eval o).run P w = .ok (.enter f args) w ∧ (F.depth.isSome = true → 1 ≤ n) ∧ CallsIn F (n - 1) P f args w fun e w' => e = .returned (v j) ∧ C w')
    (hend : ∀ fuel (listed : Array Bool) w, C w → ops.size - m ≤ fuel → listed.size = ops.size → (∀ i, i < ops.size → listed.getD i false = decide (i < m)) → wpAnyIn F n P .any ops Q fuel listed (upto ops v a0 m) w) :
    ∀ (fuel : Nat) (listed : Array Bool) (a : Act) (w : World), C w → listed.size = ops.size → left ops listed ≤ fuel → (∀ i, m ≤ i → listed.getD i false = false) → InF ops v a0 (fun i => listed.getD i false = true) a → (∀ (j : Nat) (oj : Oper), ops[j]? = some oj → listed.getD j false = true → ∀ e ∈ oj.after, Region.binds .any e = true → listed.getD e.on false = true) → wpAnyIn F n P .any ops Q fuel listed a w := by
  have fin : ∀ fuel (listed : Array Bool) (a : Act) (w : World), C w → listed.size = ops.size → left ops listed ≤ fuel → (∀ i, m ≤ i → listed.getD i false = false) → InF ops v a0 (fun i => listed.getD i false = true) a → (∀ i, i < m → listed.getD i false = true) → wpAnyIn F n P .any ops Q fuel listed a w := by
    intro fuel listed a w hC hsz hfuel hbe hF hall
    have hL : ∀ i, i < ops.size → listed.getD i false = decide (i < m) := fun i hi => by
      by_cases h : i < m
      · rw [hall i h]; simp [h]
      · rw [hbe i (by omega)]; simp [h]
    have ha : a = upto ops v a0 m := hF.ext ((InF.upto T m hm).congr (fun i hi => by simp only [hL i hi, decide_eq_true_eq]) (fun _ _ => rfl))
    rw [ha]
    refine hend fuel listed w hC ?_ hsz hL
    have hl : left ops listed = ops.size - m := by
      unfold left
      have e : (List.range ops.size).filter (fun i => !listed.getD i true) = (List.range ops.size).filter (fun i => decide (m ≤ i)) := by
        refine List.filter_congr fun i hi => ?_
        have hi' := List.mem_range.1 hi
        have h1 := hL i hi'
        have h2 : listed.getD i true = listed.getD i false := by simp [Array.getD, hsz, hi']
        rw [h2, h1]
        by_cases h : i < m
        · have : ¬ m ≤ i := by omega
          simp [h, this]
        · have : m ≤ i := by omega
          simp [h, this]
      rw [e]
      clear e hL ha hF hbe hall hfuel
      have : ∀ N, m ≤ N → ((List.range N).filter (fun i => decide (m ≤ i))).length = N - m := by
        intro N
        induction N with
        | zero => intro h; simp
        | succ N ih =>
          intro h
          rw [List.range_succ, List.filter_append, List.length_append]
          by_cases hN : m ≤ N
          · rw [ih hN]; simp [hN]; omega
          · have hmN : m = N + 1 := by omega
            have h0 : (List.range N).filter (fun i => decide (m ≤ i)) = [] := List.filter_eq_nil_iff.2 (fun x hx => by have := List.mem_range.1 hx; simp; omega)
            rw [h0]; simp [hN]; omega
      exact this ops.size hm
    omega
  intro fuel
  induction fuel with
  | zero =>
    intro listed a w hC hsz hfuel hbe hF hcl
    refine fin 0 listed a w hC hsz hfuel hbe hF fun i hi => ?_
    cases h : listed.getD i false with
    | true => rfl
    | false =>
      exfalso
      have hi' : i < ops.size := by omega
      have : i ∈ (List.range ops.size).filter fun i => !listed.getD i true := List.mem_filter.2 ⟨List.mem_range.2 hi', by
        have h2 : listed.getD i true = listed.getD i false := by simp [Array.getD, hsz, hi']
        rw [h2, h]; rfl⟩
      have h3 : ((List.range ops.size).filter fun i => !listed.getD i true).length = 0 := by unfold left at hfuel; omega
      rw [List.length_eq_zero_iff.1 h3] at this
      cases this
  | succ fuel ih =>
    intro listed a w hC hsz hfuel hbe hF hcl
    by_cases hall : ∀ i, i < m → listed.getD i false = true
    · exact fin (fuel + 1) listed a w hC hsz hfuel hbe hF hall
    · obtain ⟨j0, hj0, hl0⟩ : ∃ j, j < m ∧ listed.getD j false = false := by
        refine Classical.byContradiction fun h => hall fun i hi => ?_
        cases e : listed.getD i false with
        | true => rfl
        | false => exact (h ⟨i, hi, e⟩).elim
      refine ⟨fun hr => ?_, fun i hi => ?_⟩
      · have := ready_all T hr j0 (by omega) hsz
        rw [hl0] at this; cases this
      · obtain ⟨h0, o, ho, hdep⟩ := mem_ready.1 hi
        have hlt : i < ops.size := (Array.getElem?_eq_some_iff.1 ho).1
        have hltl : i < listed.size := by omega
        have him : i < m := by
          refine Classical.byContradiction fun hge => ?_
          unfold waitB at hw
          simp only [Bool.and_eq_true] at hw
          by_cases e1 : i = m
          · subst e1
            have := wait_all (L := fun j => listed.getD j false = true) hw.1 hcl ho hdep i j0 hj0 (by omega)
            rw [hl0] at this; cases this
          · have hq := List.all_eq_true.1 hw.2 i (List.mem_range.2 hlt)
            rw [ho] at hq
            simp only [Bool.or_eq_true, decide_eq_true_eq] at hq
            rcases hq with hq | hq
            · omega
            · obtain ⟨e, he, h6⟩ := Array.any_eq_true'.1 hq
              simp only [Bool.and_eq_true, decide_eq_true_eq] at h6
              have := hdep e he h6.1
              rw [hbe _ h6.2] at this; cases this
        have hL : ¬ listed.getD i false = true := by simp [Array.getD, hltl] at h0 ⊢; exact h0
        have hU := InF.upto (v := v) T i (by omega)
        have hag := fun t ht => InF.agree T hF hU ho hL hdep hcl t ht
        have hset : ∀ j, (listed.setIfInBounds i true).getD j false = true ↔ (listed.getD j false = true ∨ j = i) := by
          intro j
          by_cases e : j = i
          · subst e; simp [Array.getD, hltl]
          · simp only [Array.getD_eq_getD_getElem?, Array.getElem?_setIfInBounds_ne (Ne.symm e), e, or_false]
        have next : ∀ w', C w' → wpAnyIn F n P .any ops Q fuel (listed.setIfInBounds i true) (a.put o.dst (v i)) w' := by
          intro w' hC'
          refine ih _ _ w' hC' (by simpa using hsz) ?_ (fun j hj => ?_) ?_ ?_
          · have : left ops (listed.setIfInBounds i true) < left ops listed := filter_less (p := fun j => !listed.getD j true) (q := fun j => !(listed.setIfInBounds i true).getD j true) (j := i) (by
                intro j hj
                by_cases e : j = i
                · subst e; simp [Array.getD, hltl] at hj
                · simpa only [Array.getD_eq_getD_getElem?, Array.getElem?_setIfInBounds_ne (Ne.symm e)] using hj) (by simp only [h0]; rfl) (by simp [Array.getD, hltl]) _ (List.mem_range.2 hlt)
            omega
          · cases e : (listed.setIfInBounds i true).getD j false with
            | false => rfl
            | true =>
              rcases (hset j).1 e with h | h
              · rw [hbe j hj] at h; cases h
              · omega
          · exact (hF.put T ho (v i)).congr (fun j _ => (hset j).symm) (fun j hj => by by_cases e : j = i <;> simp [e])
          · intro j oj hj hlj e he hb
            rcases (hset j).1 hlj with h | rfl
            · exact (hset _).2 (.inl (hcl j oj hj h e he hb))
            · rw [ho] at hj
              injection hj with hj
              subst hj
              exact (hset _).2 (.inl (hdep e he hb))
        obtain ⟨hg, hnd, hrun⟩ := hstep i o him ho
        unfold wpOpIn
        simp only [ho]
        rw [if_pos (by simp [Region.wanted, hg])]
        unfold Oper.wpIn
        rw [Oper.semAt_eq _ _ _ hnd, exec_agree (fun cs b => T.sel i o cs b ho) hag]
        refine ⟨fun f _ => hfn f, ?_⟩
        rcases hrun w hC with hrun | ⟨f, args, hrun, hdp, hcall⟩
        · rw [hrun]
          exact next w hC
        · rw [hrun, Oper.uponIn_enter]
          refine ⟨hdp, hcall.mono ?_⟩
          rintro e w' ⟨rfl, hC'⟩
          exact next w' hC'
/-- each behind number m waits for the one ahead of it -/
def chainB (ops : Array Oper) (m : Nat) : Bool := (List.range ops.size).all fun i => decide (i ≤ m) || (match ops[i]? with
  | some o => o.after.any fun e => Region.binds .any e && e.on + 1 == i
  | none => false)
theorem chain_go {m : Nat} (T : Tidy ops a0.tmps.size) (hc : chainB ops m = true) : ∀ (d k : Nat), m ≤ k → k + d = ops.size → ∀ (fuel : Nat) (listed : Array Bool) (a : Act) (w : World), d ≤ fuel → listed.size = ops.size →
    (∀ i, i < ops.size → listed.getD i false = decide (i < k)) → wpOpsIn F n P ops Q (List.range' k d) a w → wpAnyIn F n P .any ops Q fuel listed a w := by
  have ht : ∀ (l : Array Bool) i, l.size = ops.size → i < ops.size → l.getD i true = l.getD i false := fun l i h hi => by simp [Array.getD, h, hi]
  intro d
  induction d with
  | zero =>
    intro k hk hkd fuel listed a w hf hsz hl h
    have hnone : Region.ready .any ops listed = [] := by
      rw [List.eq_nil_iff_forall_not_mem]
      intro j hj
      obtain ⟨z0, o3, ho3, _⟩ := mem_ready.1 hj
      have hlt3 : j < ops.size := (Array.getElem?_eq_some_iff.1 ho3).1
      rw [ht _ j hsz hlt3, hl j hlt3] at z0
      have : ¬ j < k := by simpa using z0
      omega
    have h' : Q .normal a w := h
    cases fuel with
    | zero => exact ⟨hnone, h'⟩
    | succ f => exact ⟨fun _ => h', fun j hj => by rw [hnone] at hj; cases hj⟩
  | succ d ih =>
    intro k hk hkd fuel listed a w hf hsz hl h
    obtain ⟨f, rfl⟩ : ∃ f, fuel = f + 1 := ⟨fuel - 1, by omega⟩
    refine ⟨fun hr => ?_, fun i hi => ?_⟩
    · have := ready_all T hr k (by omega) hsz
      rw [hl k (by omega)] at this; simp at this
    · obtain ⟨h0, o, ho, hdep⟩ := mem_ready.1 hi
      have hlt : i < ops.size := (Array.getElem?_eq_some_iff.1 ho).1
      rw [ht listed i hsz hlt, hl i hlt] at h0
      have hge : ¬ i < k := by simpa using h0
      have e : i = k := by
        refine Classical.byContradiction fun hne => ?_
        have hq := List.all_eq_true.1 hc i (List.mem_range.2 hlt)
        rw [ho] at hq
        simp only [Bool.or_eq_true, decide_eq_true_eq] at hq
        rcases hq with hq | hq
        · omega
        · obtain ⟨e, he, h6⟩ := Array.any_eq_true'.1 hq
          simp only [Bool.and_eq_true, beq_iff_eq] at h6
          have := hdep e he h6.1
          rw [hl e.on (by omega)] at this
          simp at this
          omega
      subst e
      rw [List.range'_succ, wpOpsIn_cons] at h
      refine wpOpIn_mono (fun a w h => ?_) h
      refine ih (i + 1) (by omega) (by omega) f _ a w (by omega) (by simpa using hsz) (fun j hj => ?_) h
      by_cases e : j = i
      · subst e; simp [Array.getD, hsz, hlt]
      · have := hl j hj
        simp only [Array.getD_eq_getD_getElem?] at this ⊢
        rw [Array.getElem?_setIfInBounds_ne (Ne.symm e), this, decide_eq_decide]; omega
/-- THE LAW: the first m are quiet, and come in whatever order; those behind them come one behind the other -/
theorem quiet_chain {id : Nat} {w0 : World} (m r : Nat) (v : Nat → Value) (C : World → Prop) (hfn : ∀ f, F.fn f) (hsz0 : ops.size = m + r) (hmo : P.follows .mixedOrders = true) (hT : tidyB ops a0.tmps.size = true) (hw : waitB ops m = true) (hc : chainB ops m = true) (hC0 : C w0.drew)
    (hstep : ∀ (j : Nat) (o : Oper), j < m → ops[j]? = some o → o.guard = none ∧ (∀ c, o.op ≠ .defer c) ∧ ∀ w, C w → (execOp (upto ops v a0 j).eval o).run P w = .ok (.value (v j)) w ∨
      ∃ f args, (execOp (upto ops v a0 j).eval o).run P w = .ok (.enter f args) w ∧ (F.depth.isSome = true → 1 ≤ n) ∧ CallsIn F (n - 1) P f args w fun e w' => e = .returned (v j) ∧ C w')
    (hend : ∀ w, C w → wpOpsIn F n P ops Q (List.range' m r) (upto ops v a0 m) w) :
    (Code.region id ops true).wpIn F n P Q a0 w0 := by
  refine wpIn_region_any hmo ?_
  have hrep : ∀ i, (Array.replicate ops.size false).getD i false = false := by
    intro i
    rw [Array.getD_eq_getD_getElem?]
    by_cases hi : i < ops.size
    · simp [hi]
    · simp [Array.getElem?_eq_none (show (Array.replicate ops.size false).size ≤ i by simp; omega)]
  have hno : ∀ i, (Array.replicate ops.size false).getD i false = true → False := fun i h => by rw [hrep i] at h; cases h
  refine quiet_go m (by omega) v C hfn (tidy_of hT) hw hstep (fun fuel listed w hC hf hsz hl => chain_go (tidy_of hT) hc r m (Nat.le_refl _) (by omega) fuel listed _ w (by omega) hsz hl (hend w hC)) ops.size _ a0 _ hC0 (by simp) ?_ (fun i _ => hrep i) ⟨rfl, rfl, fun i _ _ _ _ h => (hno i h).elim, fun _ _ => rfl⟩ (fun j _ _ h => (hno j h).elim)
  unfold left
  exact Nat.le_trans (List.length_filter_le _ _) (by simp)
end Go.Proofs.Ytilajoafppplcaa
end

section
namespace Go.Proofs.Ytilajoafppplcaa
open Go.RowKit Go.Shelf
set_option linter.unusedVariables false
set_option linter.unusedSimpArgs false
set_option maxRecDepth 100000
attribute [local go_sem] Oper.semAt_some

/-- what has come when k rounds are over -/
def upF {α : Type} (f : Nat → α) (k : Nat) : List α := (List.range k).map f
theorem upF_succ {α : Type} (f : Nat → α) (k : Nat) : upF f (k + 1) = upF f k ++ [f k] := by simp [upF, List.range_succ]
theorem upF_length {α : Type} (f : Nat → α) (k : Nat) : (upF f k).length = k := by simp [upF]

set_option maxHeartbeats 2000000 in
theorem ports1_in (F : Fence) (n : Nat) (hfa : ∀ f, F.fn f) (hf : F.fn 132) (hro : F.round = none) (hn : 1 ≤ n) (lr Bm Bs Bq n₀ N : Nat) (s : Rl) (start : Int) (hsr : rightR s = true) (hs0 : 0 ≤ start) (hs1 : start ≤ 1000000) (hN : (N : Int) = manyR s) (b1 : Bm < n₀) (b2 : Bs < n₀) (b3 : Bq < n₀)
    (J Jx : List Int → World → Prop) (hJd : ∀ pre W, J pre W → J pre W.drew)
    (hY : ∀ pre x W, J pre W → pre.length < N → YieldAt F (n - 1) Try.prog lr #[.int .i64 x] W fun e W' =>
      (e = .returned (.bool true) ∧ J (pre ++ [x]) W' ∧ Below n₀ W W') ∨ (e = .returned (.bool false) ∧ Jx (pre ++ [x]) W'))
    (W : World) (hm : W.heap[Bm]? = some (.cells #[.int .i64 (N : Int)] 2)) (hs : W.heap[Bs]? = some (.cells #[.int .i64 s.kind, .int .i64 s.proto, .int .i64 s.net, .int .i64 s.bits, .int .i64 s.goal, .int .i64 s.low, .int .i64 s.high] 64)) (hq : W.heap[Bq]? = some (.cells #[.int .i64 start] 2)) (h0 : J [] W) :
    CallsIn F n Try.prog 132 #[.func (.yield lr) #[] #[], .pointer (some ⟨Bm, 0, none⟩), .pointer (some ⟨Bs, 0, none⟩), .pointer (some ⟨Bq, 0, none⟩)] W fun e W' => (∃ v, e = .returned v) ∧
      ((∃ ys, ys = upF (fun k : Nat => portN s start k) N ∧ J ys W') ∨ (∃ pre, (∃ k, k ≤ N ∧ pre = upF (fun k : Nat => portN s start k) k) ∧ Jx pre W')) := by
  have cm := blk_cell hm 0
  simp at cm
  have hmb := hN ▸ many_bd hsr
  obtain ⟨_, _, _, _, w1', w2', w3', _⟩ := right_parts hsr
  have w4 := word_iff.1 w1'
  have w5 := word_iff.1 w2'
  have HPN : ∀ k : Nat, portN s start k = s.low + (start + (k : Int)) % (N : Int) := fun k => by unfold portN; rw [hN]
  have HP := HPN
  clear w1' w2' HPN
  replace hN := hidS hN
  refine callsIn_of_wp Try.func132 rfl hf ?_ hro
  simp only [Try.ntmps132, List.size_toArray, List.length_cons, List.length_nil, Nat.reduceAdd, Nat.reduceSub, Array.replicate_succ, Array.replicate_zero, List.push_toArray, List.append_toArray, List.nil_append, List.cons_append]
  gi_wp2
  gi_loopw [7] (fun i wr => ∃ k : Nat, k ≤ N ∧ i = .int .i64 (k : Int) ∧ J (upF (fun k : Nat => portN s start k) k) wr ∧ Below n₀ W wr) (fun i _ => N - (intOf i).toNat)
  case atStart => exact ⟨0, Nat.zero_le _, rfl, h0, Below.refl _ _⟩
  case round =>
    obtain ⟨k, hk, rfl, hJs, hnx⟩ := hrel
    by_cases hlt : k < N
    · have hlt' : (k : Int) < (N : Int) := by omega
      have k3 : (N : Int) ≠ 0 := by omega
      have k4 := Int.emod_nonneg (start + (k : Int)) k3
      have k5 := Int.emod_lt_of_pos (start + (k : Int)) (show 0 < (N : Int) by omega)
      have k1 : 0 ≤ start + (k : Int) := by omega
      have gm := blk_cell ((hnx.drew.block _ b1).trans hm) 0
      have gq := blk_cell ((hnx.drew.block _ b3).trans hq) 0
      have g5 := blk_cell ((hnx.drew.block _ b2).trans hs) 5
      simp at gm gq g5
      have hx1 : IntKind.i64.wrap (start + (k : Int)) = start + (k : Int) := IntWalk.i64_in _ (by omega)
      have hx3 : IntKind.i64.wrap (s.low + (start + (k : Int)) % (N : Int)) = s.low + (start + (k : Int)) % (N : Int) := IntWalk.i64_in _ (by omega)
      gi_wp2
      refine quiet_chain 9 2 (fun j => match j with | 0 => .func (.yield lr) #[] #[] | 1 => .pointer (some ⟨Bs, 5, none⟩) | 2 => .int .i64 s.low | 3 => .int .i64 start | 4 => .int .i64 (k : Int) | 5 => .int .i64 (start + (k : Int)) | 6 => .int .i64 (N : Int) | 7 => .int .i64 ((start + (k : Int)) % (N : Int)) | _ => .int .i64 (s.low + (start + (k : Int)) % (N : Int))) (fun V => V = wr.drew) hfa rfl (by kernel_rfl) (by kernel_rfl) (by kernel_rfl) (by kernel_rfl) rfl ?reads ?rest
      case reads =>
        intro j o hj ho
        obtain rfl | rfl | rfl | rfl | rfl | rfl | rfl | rfl | rfl : j = 0 ∨ j = 1 ∨ j = 2 ∨ j = 3 ∨ j = 4 ∨ j = 5 ∨ j = 6 ∨ j = 7 ∨ j = 8 := by omega
        all_goals
          injection ho with ho
          subst ho
          refine ⟨rfl, (fun c h => by cases h), ?_⟩
          rintro _ rfl
          left
          simp [upto, Act.put, execOp, go_sem]
          first | done | (simp [gm, gq, g5, hx1, hx3, k3]; done) | (rw [if_neg (by omega), Int.tmod_eq_emod_of_nonneg k1])
      case rest =>
        rintro _ rfl
        obtain ⟨fn, tmps, assign, body, hy, hR⟩ := hY _ (s.low + (start + (k : Int)) % (N : Int)) wr.drew (hJd _ _ hJs) (by rw [upF_length]; exact hlt)
        simp only [List.range', wpOpsIn_cons]
        unfold wpOpIn
        simp [upto, Act.put, Region.wanted, Oper.wpIn, hro, execOp, go_sem, hy]
        refine ⟨fun _ => hn, hR.mono ?_⟩
        rintro e W3 (⟨rfl, hJ3, hk3⟩ | ⟨rfl, hJx3⟩)
        · simp only [wpOpsIn_cons]
          unfold wpOpIn
          simp [Act.put, Region.wanted, Oper.wpIn, hro, execOp, go_sem]
          simp only [wpOpsIn]
          gi_wp2
          go_roundw
          case rel => exact ⟨k + 1, by omega, by simp, by rw [upF_succ, HP k]; exact hJ3, hnx.drew.trans hk3⟩
          case measure => simp [intOf]; omega
        · simp only [wpOpsIn_cons]
          unfold wpOpIn
          simp [Act.put, Region.wanted, Oper.wpIn, hro, execOp, go_sem]
          simp only [wpOpsIn]
          gi_wp2
          refine bodyPost_ret (results_none rfl _ _ _) rfl ?_
          exact ⟨⟨_, rfl⟩, .inr ⟨_, ⟨k + 1, by omega, by rw [upF_succ, HP k]⟩, hJx3⟩⟩
    · obtain rfl : k = N := by omega
      gi_wp2
      go_end0
      exact ⟨⟨_, rfl⟩, .inl ⟨_, rfl, hJs⟩⟩
end Go.Proofs.Ytilajoafppplcaa
end
