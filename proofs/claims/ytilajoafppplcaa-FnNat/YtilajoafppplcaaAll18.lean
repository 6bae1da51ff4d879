/- Proved here: nothing of a program: as whom a new flow goes on is none of those that are used, and is its rule's. · Proved here: a rule, and an answer of a tuple, held against themselves as a whole are the same (no program walked). · Proved here: spec.l08Pow answers a power of two, spec.l08Head an address without its last bits, and both leave memory alone (conditions: 0 to 32; an address). · Proved here: nothing of a program: a call that leaves memory alone keeps what lay there. · Proved here: a region whose cases go on alike (a bridge; no program of its own). -/
import Derived.Test.YtilajoafppplcaaAll17
import Derived.Test.YtilajoafppplcaaAll5
import Derived.Test.YtilajoafppplcaaAll3
import Derived.Test.YtilajoafppplcaaAll1
import Derived.Test.YtilajoafppplcaaGrow
section
namespace Go.Proofs.Ytilajoafppplcaa
set_option linter.unusedVariables false
set_option linter.unusedSimpArgs false

theorem freeF_is {used : List Tp} {f : Nat → Tp} : ∀ {n k : Nat} {x : Tp}, freeF used f k n = some x → usedB used x = false ∧ ∃ j, x = f j
  | 0, k, x, h => by simp [freeF] at h
  | n + 1, k, x, h => by
    unfold freeF at h
    by_cases q : usedB used (f k) = true
    · rw [if_pos q] at h; exact freeF_is h
    · rw [if_neg q] at h
      injection h with h
      subst h
      exact ⟨by simpa using q, k, rfl⟩
theorem has_kind {l : List Rl} {k : Int} {t : Tp} (h : hasR l k t = true) : (foundR l k t).kind = k := by
  unfold hasR at h
  unfold foundR
  cases e : firstR l k t with
  | none => simp [e] at h
  | some r =>
    have := (firstR_mem e).2
    unfold forR at this
    simp only [Bool.and_eq_true, beq_iff_eq] at this
    exact this.1.1
theorem has_not {l : List Rl} {k : Int} {t : Tp} (h : hasR l k t = false) : foundR l k t = zeroRl := by
  unfold hasR at h
  unfold foundR
  cases e : firstR l k t with
  | none => rfl
  | some r => simp [e] at h
theorem goes_parts {l : List Rl} {t : Tp} {start : Int} {used : List Tp} (h : goesC l t start used = 0) : rulesB l = true ∧ rightT t = true ∧ 0 ≤ start ∧ goesF l t start used = some (goesT l t start used) := by
  unfold goesC at h
  by_cases c : 400 < l.length ∨ 400 < used.length
  · rw [if_pos c] at h; omega
  rw [if_neg c] at h
  by_cases g : goesOk l t start used = true
  · rw [if_pos g] at h
    unfold goesT
    rw [if_neg c, if_pos g]
    unfold goesOk at g
    simp only [Bool.and_eq_true, decide_eq_true_eq] at g
    refine ⟨g.1.1.1.1, g.1.1.1.2, g.1.1.2.1, ?_⟩
    cases e : goesF l t start used with
    | none => rw [e] at h; simp [codeF] at h
    | some x => rfl
  · rw [if_neg g] at h; omega
theorem rules_all {l : List Rl} (h : rulesB l = true) : allR l = true := by
  unfold rulesB at h
  simp only [Bool.and_eq_true] at h
  exact h.2
/-- all that is told of a name that is given -/
theorem goes_facts {l : List Rl} {t : Tp} {start : Int} {used : List Tp} (h : goesC l t start used = 0) :
    usedB used (goesT l t start used) = false ∧ rightT (goesT l t start used) = true ∧ rightT (goalT l t) = true ∧
    ((hasR l 1 (goalT l t) = false ∧ goesT l t start used = goalT l t) ∨
     (hasR l 1 (goalT l t) = true ∧ ∃ k : Nat, goesT l t start used = nameK (foundR l 1 (goalT l t)) (goalT l t) start k ∧ (foundR l 1 (goalT l t)).low ≤ portN (foundR l 1 (goalT l t)) start k ∧ portN (foundR l 1 (goalT l t)) start k ≤ (foundR l 1 (goalT l t)).high)) := by
  obtain ⟨hr, ht, hs, hf⟩ := goes_parts h
  have ha := rules_all hr
  have hg := goal_right ha ht
  unfold goesF at hf
  by_cases c : hasR l 1 (goalT l t) = true
  · rw [if_pos c] at hf
    obtain ⟨h1, k, h2⟩ := freeF_is hf
    have hrr := found_right ha c
    have hp := port_word hrr (start := start) (k := (k : Int)) hs (by omega)
    refine ⟨h1, ?_, hg, .inr ⟨c, k, h2, hp.1, hp.2.1⟩⟩
    rw [h2]
    exact name_right hrr hg hs k
  · rw [if_neg c] at hf
    by_cases u : usedB used (goalT l t) = true
    · rw [if_pos u] at hf; cases hf
    · rw [if_neg u] at hf
      injection hf with hf
      rw [← hf]
      exact ⟨by simpa using u, hg, hg, .inl ⟨by simpa using c, rfl⟩⟩
theorem used_not {used : List Tp} {x : Tp} (h : usedB used x = false) (hr : rightT x = true) {k : Nat} (hk : k < used.length) : sameT (used.getD k zeroTp) x = false ∧ sameT (used.getD k zeroTp) (invAns x) = false := by
  have hm : used.getD k zeroTp ∈ used := by
    rw [List.getD_eq_getElem?_getD, List.getElem?_eq_getElem hk]
    exact List.getElem_mem hk
  have hi : invAns x = invT x := if_pos hr
  have hn := fun q => (Bool.eq_false_iff.1 h) (usedB_iff.2 q)
  refine ⟨Bool.eq_false_iff.2 fun e => hn (.inl ?_), Bool.eq_false_iff.2 fun e => hn (.inr ?_)⟩
  · rw [← sameT_iff.1 e]; exact hm
  · rw [← hi, ← sameT_iff.1 e]; exact hm
theorem net_whole {a n : Int} (h : inNetB a n 32 = true) : a = n := by
  unfold inNetB at h
  simp only [Bool.and_eq_true, beq_iff_eq] at h
  have := h.2
  unfold headN powN at this
  simpa using this
theorem ans_goal {l : List Rl} {t : Tp} (hr : rulesB l = true) (ht : rightT t = true) : ruleAns l 2 t = foundR l 2 t := by
  unfold ruleAns ruleB
  rw [hr, ht]
  rfl
theorem ans_send {l : List Rl} {t : Tp} (hr : rulesB l = true) (ht : rightT t = true) : ruleAns l 1 t = foundR l 1 t := by
  unfold ruleAns ruleB
  rw [hr, ht]
  rfl
end Go.Proofs.Ytilajoafppplcaa
end

section
namespace Go.Proofs.Ytilajoafppplcaa
open Go.ChangeShapes Go.WideShapes Go.ChangeAt Go.RowKit
set_option linter.unusedVariables false
set_option linter.unusedSimpArgs false
set_option maxRecDepth 100000

theorem neq_rl (r : Rl) (W : World) : (binOp .neq 64 (.agg #[.int .i64 r.kind, .int .i64 r.proto, .int .i64 r.net, .int .i64 r.bits, .int .i64 r.goal, .int .i64 r.low, .int .i64 r.high]) (.agg #[.int .i64 r.kind, .int .i64 r.proto, .int .i64 r.net, .int .i64 r.bits, .int .i64 r.goal, .int .i64 r.low, .int .i64 r.high])).run Try.prog W = .ok (.bool false) W := by
  have key : (Op.equalIn 10000 64 (.agg #[.int .i64 r.kind, .int .i64 r.proto, .int .i64 r.net, .int .i64 r.bits, .int .i64 r.goal, .int .i64 r.low, .int .i64 r.high]) (.agg #[.int .i64 r.kind, .int .i64 r.proto, .int .i64 r.net, .int .i64 r.bits, .int .i64 r.goal, .int .i64 r.low, .int .i64 r.high])).run Try.prog W = .ok true W := by
    rw [show (10000 : Nat) = 9999 + 1 from rfl, run_equalIn_struct W 9999 64 _ _ (by kernel_rfl) (by kernel_rfl)]
    unfold Program.fieldsOf
    rw [Try.underlying64]
    have hi : ∀ (d : Nat) (x y : Int) (V : World), (Op.equalIn (d + 1) 2 (.int .i64 x) (.int .i64 y)).run Try.prog V = .ok (x == y) V := fun d x y V => run_equalIn_int V d 2 .i64 .i64 x y Try.underlying2
    rw [show (9999 : Nat) = 9998 + 1 from rfl]
    generalize (9998 : Nat) = D at *
    have q0 : ∀ V : World, (part 2 #[.int .i64 r.kind, .int .i64 r.proto, .int .i64 r.net, .int .i64 r.bits, .int .i64 r.goal, .int .i64 r.low, .int .i64 r.high] 0).run Try.prog V = .ok (.int .i64 r.kind) V := fun _ => by kernel_rfl
    have q1 : ∀ V : World, (part 2 #[.int .i64 r.kind, .int .i64 r.proto, .int .i64 r.net, .int .i64 r.bits, .int .i64 r.goal, .int .i64 r.low, .int .i64 r.high] 1).run Try.prog V = .ok (.int .i64 r.proto) V := fun _ => by kernel_rfl
    have q2 : ∀ V : World, (part 2 #[.int .i64 r.kind, .int .i64 r.proto, .int .i64 r.net, .int .i64 r.bits, .int .i64 r.goal, .int .i64 r.low, .int .i64 r.high] 2).run Try.prog V = .ok (.int .i64 r.net) V := fun _ => by kernel_rfl
    have q3 : ∀ V : World, (part 2 #[.int .i64 r.kind, .int .i64 r.proto, .int .i64 r.net, .int .i64 r.bits, .int .i64 r.goal, .int .i64 r.low, .int .i64 r.high] 3).run Try.prog V = .ok (.int .i64 r.bits) V := fun _ => by kernel_rfl
    have q4 : ∀ V : World, (part 2 #[.int .i64 r.kind, .int .i64 r.proto, .int .i64 r.net, .int .i64 r.bits, .int .i64 r.goal, .int .i64 r.low, .int .i64 r.high] 4).run Try.prog V = .ok (.int .i64 r.goal) V := fun _ => by kernel_rfl
    have q5 : ∀ V : World, (part 2 #[.int .i64 r.kind, .int .i64 r.proto, .int .i64 r.net, .int .i64 r.bits, .int .i64 r.goal, .int .i64 r.low, .int .i64 r.high] 5).run Try.prog V = .ok (.int .i64 r.low) V := fun _ => by kernel_rfl
    have q6 : ∀ V : World, (part 2 #[.int .i64 r.kind, .int .i64 r.proto, .int .i64 r.net, .int .i64 r.bits, .int .i64 r.goal, .int .i64 r.low, .int .i64 r.high] 6).run Try.prog V = .ok (.int .i64 r.high) V := fun _ => by kernel_rfl
    simp only [Op.eqFields, q0, q1, q2, q3, q4, q5, q6, hi, beq_self_eq_true, Sem.run_ite, Sem.run_bind, Result.andThen_ok, Sem.run_pure, ne_eq, String.reduceEq, not_false_eq_true, if_true, Bool.not_false, Bool.not_true, Bool.false_eq_true, if_false, Bool.and_true, Bool.and_false]
  rw [run_neq_struct, key]; rfl
theorem eqlIn_tpD (d : Nat) (p : Tp) (W : World) : (Op.equalIn (d + 3) 52 (.agg #[.int .i64 p.proto, .int .i64 p.src, .int .i64 p.sport, .int .i64 p.dst, .int .i64 p.dport, .int .i64 p.kind]) (.agg #[.int .i64 p.proto, .int .i64 p.src, .int .i64 p.sport, .int .i64 p.dst, .int .i64 p.dport, .int .i64 p.kind])).run Try.prog W = .ok true W := by
  rw [show d + 3 = (d + 2) + 1 from rfl, run_equalIn_struct W (d + 2) 52 _ _ (by kernel_rfl) (by kernel_rfl)]
  unfold Program.fieldsOf
  rw [Try.underlying52]
  have hi : ∀ (d : Nat) (x y : Int) (V : World), (Op.equalIn (d + 1) 2 (.int .i64 x) (.int .i64 y)).run Try.prog V = .ok (x == y) V := fun d x y V => run_equalIn_int V d 2 .i64 .i64 x y Try.underlying2
  rw [show d + 2 = (d + 1) + 1 from rfl]
  have q0 : ∀ V : World, (part 2 #[.int .i64 p.proto, .int .i64 p.src, .int .i64 p.sport, .int .i64 p.dst, .int .i64 p.dport, .int .i64 p.kind] 0).run Try.prog V = .ok (.int .i64 p.proto) V := fun _ => by kernel_rfl
  have q1 : ∀ V : World, (part 2 #[.int .i64 p.proto, .int .i64 p.src, .int .i64 p.sport, .int .i64 p.dst, .int .i64 p.dport, .int .i64 p.kind] 1).run Try.prog V = .ok (.int .i64 p.src) V := fun _ => by kernel_rfl
  have q2 : ∀ V : World, (part 2 #[.int .i64 p.proto, .int .i64 p.src, .int .i64 p.sport, .int .i64 p.dst, .int .i64 p.dport, .int .i64 p.kind] 2).run Try.prog V = .ok (.int .i64 p.sport) V := fun _ => by kernel_rfl
  have q3 : ∀ V : World, (part 2 #[.int .i64 p.proto, .int .i64 p.src, .int .i64 p.sport, .int .i64 p.dst, .int .i64 p.dport, .int .i64 p.kind] 3).run Try.prog V = .ok (.int .i64 p.dst) V := fun _ => by kernel_rfl
  have q4 : ∀ V : World, (part 2 #[.int .i64 p.proto, .int .i64 p.src, .int .i64 p.sport, .int .i64 p.dst, .int .i64 p.dport, .int .i64 p.kind] 4).run Try.prog V = .ok (.int .i64 p.dport) V := fun _ => by kernel_rfl
  have q5 : ∀ V : World, (part 2 #[.int .i64 p.proto, .int .i64 p.src, .int .i64 p.sport, .int .i64 p.dst, .int .i64 p.dport, .int .i64 p.kind] 5).run Try.prog V = .ok (.int .i64 p.kind) V := fun _ => by kernel_rfl
  simp only [Op.eqFields, q0, q1, q2, q3, q4, q5, hi, beq_self_eq_true, Sem.run_ite, Sem.run_bind, Result.andThen_ok, Sem.run_pure, ne_eq, String.reduceEq, not_false_eq_true, if_true, Bool.not_false, Bool.not_true, Bool.false_eq_true, if_false, Bool.and_true, Bool.and_false]
theorem neq_tpo (p : Tp) (c : Int) (W : World) : (binOp .neq 57 (.agg #[.int .i64 p.proto, .int .i64 p.src, .int .i64 p.sport, .int .i64 p.dst, .int .i64 p.dport, .int .i64 p.kind, .int .i64 c]) (.agg #[.int .i64 p.proto, .int .i64 p.src, .int .i64 p.sport, .int .i64 p.dst, .int .i64 p.dport, .int .i64 p.kind, .int .i64 c])).run Try.prog W = .ok (.bool false) W := by
  have key : (Op.equalIn 10000 57 (.agg #[.int .i64 p.proto, .int .i64 p.src, .int .i64 p.sport, .int .i64 p.dst, .int .i64 p.dport, .int .i64 p.kind, .int .i64 c]) (.agg #[.int .i64 p.proto, .int .i64 p.src, .int .i64 p.sport, .int .i64 p.dst, .int .i64 p.dport, .int .i64 p.kind, .int .i64 c])).run Try.prog W = .ok true W := by
    rw [show (10000 : Nat) = 9999 + 1 from rfl, run_equalIn_struct W 9999 57 _ _ (by kernel_rfl) (by kernel_rfl)]
    unfold Program.fieldsOf
    rw [Try.underlying57]
    have hi : ∀ (d : Nat) (x y : Int) (V : World), (Op.equalIn (d + 1) 2 (.int .i64 x) (.int .i64 y)).run Try.prog V = .ok (x == y) V := fun d x y V => run_equalIn_int V d 2 .i64 .i64 x y Try.underlying2
    have hk := fun V => eqlIn_tpD 9996 p V
    rw [show (9996 + 3 : Nat) = 9998 + 1 from rfl] at hk
    rw [show (9999 : Nat) = 9998 + 1 from rfl]
    generalize (9998 : Nat) = D at *
    have q0 : ∀ V : World, (part 52 #[.int .i64 p.proto, .int .i64 p.src, .int .i64 p.sport, .int .i64 p.dst, .int .i64 p.dport, .int .i64 p.kind, .int .i64 c] 0).run Try.prog V = .ok (.agg #[.int .i64 p.proto, .int .i64 p.src, .int .i64 p.sport, .int .i64 p.dst, .int .i64 p.dport, .int .i64 p.kind]) V := fun _ => by kernel_rfl
    have q1 : ∀ V : World, (part 2 #[.int .i64 p.proto, .int .i64 p.src, .int .i64 p.sport, .int .i64 p.dst, .int .i64 p.dport, .int .i64 p.kind, .int .i64 c] 6).run Try.prog V = .ok (.int .i64 c) V := fun _ => by kernel_rfl
    simp only [Op.eqFields, q0, q1, hi, hk, beq_self_eq_true, Sem.run_ite, Sem.run_bind, Result.andThen_ok, Sem.run_pure, ne_eq, String.reduceEq, not_false_eq_true, if_true, Bool.not_false, Bool.not_true, Bool.false_eq_true, if_false, Bool.and_true, Bool.and_false]
  rw [run_neq_struct, key]; rfl
end Go.Proofs.Ytilajoafppplcaa
end

section
namespace Go.Proofs.Ytilajoafppplcaa
open Go.ChangeShapes Go.WideShapes Go.ChangeAt Go.RowKit
set_option linter.unusedVariables false
set_option linter.unusedSimpArgs false

set_option maxHeartbeats 1000000 in
theorem l08Pow_any (n : Int) (h0 : 0 ≤ n) (h1 : n ≤ 32) (w : World) :
    Calls Try.prog 119 #[.int .i64 n] w fun e w' => e = .returned (.int .i64 (powN n)) ∧ w' = w := by
  go_enter Try.func119, Try.ntmps119
  go_wp2
  go_loop [0, 3] (fun a b => ∃ m : Int, a = .int .i64 m ∧ 0 ≤ m ∧ m ≤ n ∧ b = .int .i64 (powN (n - m))) (fun a _ => (intOf a).toNat)
  case atStart => exact ⟨n, rfl, h0, Int.le_refl _, by rw [Int.sub_self]; rfl⟩
  case round =>
    obtain ⟨m, rfl, hm0, hm1, rfl⟩ := hrel
    have hp := pow_pos' (n - m)
    have hl := pow_le (n := n - m) (by omega) (by omega)
    by_cases hlt : 0 < m
    · have hs := hidS (pow_step (n := n - m) (by omega))
      go_wp2
      go_round
      case rel => exact ⟨m - 1, rfl, by omega, by omega, by rw [show n - (m - 1) = n - m + 1 by omega, hs.out]⟩
      case measure => simp [intOf]; omega
    · have e : m = 0 := by omega
      subst e
      go_wp2
      go_ret
      exact ⟨rfl, rfl⟩
set_option maxHeartbeats 1000000 in
theorem l08Head_any (a b : Int) (ha : 0 ≤ a) (ha2 : a ≤ 4294967295) (h0 : 0 ≤ b) (h1 : b ≤ 32) (w : World) :
    Calls Try.prog 84 #[.int .i64 a, .int .i64 b] w fun e w' => e = .returned (.int .i64 (headN a b)) ∧ w' = w := by
  have hp := pow_pos' (32 - b)
  have hl := pow_le (n := 32 - b) (by omega) (by omega)
  have hd := div_bd ha hp
  have hh := head_bd (b := b) ha
  have hH : Hid (headN a b = a / powN (32 - b) * powN (32 - b)) := rfl
  go_enter Try.func84, Try.ntmps84
  go_wp2_with fail
  refine (l08Pow_any (32 - b) (by omega) (by omega) _).mono ?_
  rintro _ w1 ⟨rfl, rfl⟩
  have hm : 0 ≤ a / powN (32 - b) * powN (32 - b) ∧ a / powN (32 - b) * powN (32 - b) ≤ a := hh
  generalize powN (32 - b) = p at *
  go_wp2
  go_ret
  exact ⟨by rw [hH.out]; rfl, rfl⟩
end Go.Proofs.Ytilajoafppplcaa
end

section
namespace Go.Proofs.Ytilajoafppplcaa
open Go.ChangeShapes Go.WideShapes Go.ChangeAt Go.RowKit
set_option linter.unusedVariables false
theorem sameB {P : Program} {f : Nat} {a : Array Value} {w : World} {v : Ending} (h : Calls P f a w fun e w' => e = v ∧ w' = w) : Calls P f a w fun e w' => e = v ∧ Below w.heap.size w w' :=
  h.mono fun e x q => ⟨q.1, by rw [q.2]; exact Below.refl _ _⟩
end Go.Proofs.Ytilajoafppplcaa
end

section
namespace Go.Proofs.Ytilajoafppplcaa
open Go.ChangeShapes Go.WideShapes Go.ChangeAt Go.RowKit
set_option linter.unusedVariables false

/-- what an operation waits for is known -/
theorem kdj {A : Nat → Value → World → Prop} {v : Nat → Value} {w : World} {l : Array Edge} (kd : ∀ e ∈ l, Region.binds .any e = true → A e.on (v e.on) w) (j : Nat) (h : (l.toList.any fun e => Region.binds .any e && e.on == j) = true) : A j (v j) w := by
  obtain ⟨e, he, hq⟩ := List.any_eq_true.1 h
  rw [Bool.and_eq_true] at hq
  have ej : e.on = j := by simpa using hq.2
  have := kd e (by simpa using he) hq.1
  rwa [ej] at this
theorem mem0 {α : Type} {a : Array α} {x : α} (h : a[0]? = some x) : x ∈ a := Array.mem_of_getElem? h
theorem mem1 {α : Type} {a : Array α} {x : α} (h : a[1]? = some x) : x ∈ a := Array.mem_of_getElem? h
theorem mem2 {α : Type} {a : Array α} {x : α} (h : a[2]? = some x) : x ∈ a := Array.mem_of_getElem? h
theorem mem3 {α : Type} {a : Array α} {x : α} (h : a[3]? = some x) : x ∈ a := Array.mem_of_getElem? h
theorem mem4 {α : Type} {a : Array α} {x : α} (h : a[4]? = some x) : x ∈ a := Array.mem_of_getElem? h
theorem mem5 {α : Type} {a : Array α} {x : α} (h : a[5]? = some x) : x ∈ a := Array.mem_of_getElem? h
/-- what follows a region is shown once, for all values but the last, and the cases of the region then -/
theorem grow_cases {P : Program} {ops : Array Oper} {Q : Exit → Act → World → Prop} {a0 : Act} {id : Nat} {w0 : World} (n : Nat) (b : Value)
    (fin : ∀ (v : Nat → Value) (w : World), Below w0.heap.size w0 w → v (n - 1) = b → Q .normal (upto ops v a0 n) w)
    (h : (∀ (v : Nat → Value) (w : World), Below w0.heap.size w0 w → v (n - 1) = b → Q .normal (upto ops v a0 n) w) → (Code.region id ops true).wp P Q a0 w0) :
    (Code.region id ops true).wp P Q a0 w0 := h fin
end Go.Proofs.Ytilajoafppplcaa
end
