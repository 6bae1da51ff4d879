/- Proved here: two tuples held against each other as wholes are the same just if all their numbers are (no program walked). · Proved here: nothing of a program: as whom a tuple goes on, as plain functions; that twice as many names as are used, and one, are as good as all (each used tuple takes two ports away at most). · Proved here: nothing of a program: the first rule that holds, looked for one by one. · Proved here: nothing of a program: as whom a right tuple goes on by right rules is right. -/
import Derived.Test.YtilajoafppplcaaAll5
import Derived.Test.YtilajoafppplcaaAll3
section
namespace Go.Proofs.Ytilajoafppplcaa
open Go.ChangeShapes Go.WideShapes Go.ChangeAt Go.RowKit
set_option linter.unusedVariables false
set_option linter.unusedSimpArgs false
set_option maxRecDepth 100000

/-- are they the same? -/
def sameT (a b : Tp) : Bool := a.proto == b.proto && a.src == b.src && a.sport == b.sport && a.dst == b.dst && a.dport == b.dport && a.kind == b.kind
theorem sameT_iff {a b : Tp} : sameT a b = true ↔ a = b := by
  obtain ⟨a1, a2, a3, a4, a5, a6⟩ := a
  obtain ⟨b1, b2, b3, b4, b5, b6⟩ := b
  simp [sameT, and_assoc]
theorem eqlIn_tup (a b : Tp) (W : World) : (Op.equalIn 10000 52 (.agg #[.int .i64 a.proto, .int .i64 a.src, .int .i64 a.sport, .int .i64 a.dst, .int .i64 a.dport, .int .i64 a.kind]) (.agg #[.int .i64 b.proto, .int .i64 b.src, .int .i64 b.sport, .int .i64 b.dst, .int .i64 b.dport, .int .i64 b.kind])).run Try.prog W = .ok (sameT a b) W := by
  unfold sameT
  rw [show (10000 : Nat) = 9999 + 1 from rfl, run_equalIn_struct W 9999 52 _ _ (by kernel_rfl) (by kernel_rfl)]
  unfold Program.fieldsOf
  rw [Try.underlying52]
  have hi : ∀ (d : Nat) (x y : Int) (V : World), (Op.equalIn (d + 1) 2 (.int .i64 x) (.int .i64 y)).run Try.prog V = .ok (x == y) V := fun d x y V => run_equalIn_int V d 2 .i64 .i64 x y Try.underlying2
  rw [show (9999 : Nat) = 9998 + 1 from rfl]
  have q0 : ∀ (t : Tp) (V : World), (part 2 #[.int .i64 t.proto, .int .i64 t.src, .int .i64 t.sport, .int .i64 t.dst, .int .i64 t.dport, .int .i64 t.kind] 0).run Try.prog V = .ok (.int .i64 t.proto) V := fun _ _ => by kernel_rfl
  have q1 : ∀ (t : Tp) (V : World), (part 2 #[.int .i64 t.proto, .int .i64 t.src, .int .i64 t.sport, .int .i64 t.dst, .int .i64 t.dport, .int .i64 t.kind] 1).run Try.prog V = .ok (.int .i64 t.src) V := fun _ _ => by kernel_rfl
  have q2 : ∀ (t : Tp) (V : World), (part 2 #[.int .i64 t.proto, .int .i64 t.src, .int .i64 t.sport, .int .i64 t.dst, .int .i64 t.dport, .int .i64 t.kind] 2).run Try.prog V = .ok (.int .i64 t.sport) V := fun _ _ => by kernel_rfl
  have q3 : ∀ (t : Tp) (V : World), (part 2 #[.int .i64 t.proto, .int .i64 t.src, .int .i64 t.sport, .int .i64 t.dst, .int .i64 t.dport, .int .i64 t.kind] 3).run Try.prog V = .ok (.int .i64 t.dst) V := fun _ _ => by kernel_rfl
  have q4 : ∀ (t : Tp) (V : World), (part 2 #[.int .i64 t.proto, .int .i64 t.src, .int .i64 t.sport, .int .i64 t.dst, .int .i64 t.dport, .int .i64 t.kind] 4).run Try.prog V = .ok (.int .i64 t.dport) V := fun _ _ => by kernel_rfl
  have q5 : ∀ (t : Tp) (V : World), (part 2 #[.int .i64 t.proto, .int .i64 t.src, .int .i64 t.sport, .int .i64 t.dst, .int .i64 t.dport, .int .i64 t.kind] 5).run Try.prog V = .ok (.int .i64 t.kind) V := fun _ _ => by kernel_rfl
  generalize (9998 : Nat) = D at *
  cases h0 : (a.proto == b.proto) <;> cases h1 : (a.src == b.src) <;> cases h2 : (a.sport == b.sport) <;> cases h3 : (a.dst == b.dst) <;> cases h4 : (a.dport == b.dport) <;> cases h5 : (a.kind == b.kind) <;>
    simp only [Op.eqFields, q0, q1, q2, q3, q4, q5, hi, h0, h1, h2, h3, h4, h5, Sem.run_ite, Sem.run_bind, Result.andThen_ok, Sem.run_pure, ne_eq, String.reduceEq, not_false_eq_true, if_true, Bool.not_false, Bool.not_true, Bool.false_eq_true, if_false, Bool.and_true, Bool.and_false]
theorem eql_tup (a b : Tp) (W : World) : (binOp .eql 52 (.agg #[.int .i64 a.proto, .int .i64 a.src, .int .i64 a.sport, .int .i64 a.dst, .int .i64 a.dport, .int .i64 a.kind]) (.agg #[.int .i64 b.proto, .int .i64 b.src, .int .i64 b.sport, .int .i64 b.dst, .int .i64 b.dport, .int .i64 b.kind])).run Try.prog W = .ok (.bool (sameT a b)) W := by
  rw [run_eql_struct, eqlIn_tup]; rfl
theorem neq_tup (a b : Tp) (W : World) : (binOp .neq 52 (.agg #[.int .i64 a.proto, .int .i64 a.src, .int .i64 a.sport, .int .i64 a.dst, .int .i64 a.dport, .int .i64 a.kind]) (.agg #[.int .i64 b.proto, .int .i64 b.src, .int .i64 b.sport, .int .i64 b.dst, .int .i64 b.dport, .int .i64 b.kind])).run Try.prog W = .ok (.bool (!sameT a b)) W := by
  rw [run_neq_struct, eqlIn_tup]; rfl
end Go.Proofs.Ytilajoafppplcaa
end

section
namespace Go.Proofs.Ytilajoafppplcaa
set_option linter.unusedVariables false

/-- is it one of them? -/
def hasT : List Tp → Tp → Bool
  | [], _ => false
  | u :: l, t => sameT t u || hasT l t
theorem hasT_iff : ∀ {l : List Tp} {t : Tp}, hasT l t = true ↔ t ∈ l
  | [], t => by simp [hasT]
  | u :: l, t => by rw [hasT, Bool.or_eq_true, sameT_iff, hasT_iff, List.mem_cons]
/-- it, or its other way -/
def usedB (used : List Tp) (t : Tp) : Bool := hasT used t || hasT used (invT t)
theorem usedB_iff {used : List Tp} {t : Tp} : usedB used t = true ↔ t ∈ used ∨ invT t ∈ used := by
  unfold usedB
  rw [Bool.or_eq_true, hasT_iff, hasT_iff]
/-- where it goes -/
def goalT (l : List Rl) (t : Tp) : Tp := if hasR l 2 t = true then ⟨t.proto, t.src, t.sport, (foundR l 2 t).goal, if 0 < (foundR l 2 t).low ∧ t.proto ≠ 1 then (foundR l 2 t).low else t.dport, t.kind⟩ else t
/-- with another sender -/
def senderT (t : Tp) (a p : Int) : Tp := ⟨t.proto, a, p, t.dst, if t.proto = 1 then p else t.dport, t.kind⟩
def manyR (r : Rl) : Int := r.high - r.low + 1
def portN (r : Rl) (start k : Int) : Int := r.low + (start + k) % manyR r
def nameK (r : Rl) (t : Tp) (start : Int) (k : Nat) : Tp := senderT t r.goal (portN r start k)
/-- the first of so many from k on that is not used -/
def freeF (used : List Tp) (f : Nat → Tp) : Nat → Nat → Option Tp
  | _, 0 => none
  | k, n + 1 => if usedB used (f k) = true then freeF used f (k + 1) n else some (f k)
theorem freeF_some {used : List Tp} {f : Nat → Tp} : ∀ {n k : Nat} (m : Nat) {t : Tp}, freeF used f k n = some t → freeF used f k (n + m) = some t
  | 0, k, m, t, h => by simp [freeF] at h
  | n + 1, k, m, t, h => by
    rw [show n + 1 + m = (n + m) + 1 by omega]
    unfold freeF at h ⊢
    split
    · rename_i q; rw [if_pos q] at h; exact freeF_some m h
    · rename_i q; rw [if_neg q] at h; exact h
theorem freeF_none {used : List Tp} {f : Nat → Tp} : ∀ {n k : Nat}, freeF used f k n = none → ∀ j, k ≤ j → j < k + n → usedB used (f j) = true
  | 0, k, h, j, h1, h2 => by omega
  | n + 1, k, h, j, h1, h2 => by
    unfold freeF at h
    split at h
    · rename_i q
      rcases (by omega : j = k ∨ k + 1 ≤ j) with e | e
      · subst e; exact q
      · exact freeF_none h j e (by omega)
    · cases h
/-- pigeonhole -/
theorem nodup_le : ∀ {l m : List Int}, l.Nodup → (∀ x ∈ l, x ∈ m) → l.length ≤ m.length
  | [], m, _, _ => Nat.zero_le _
  | x :: l, m, hn, hs => by
    obtain ⟨h1, h2⟩ := List.nodup_cons.1 hn
    have hx : x ∈ m := hs x (List.mem_cons_self ..)
    have := nodup_le (l := l) (m := m.erase x) h2 (fun y hy => by
      have hyx : y ≠ x := fun e => h1 (e ▸ hy)
      exact (List.mem_erase_of_ne hyx).2 (hs y (List.mem_cons_of_mem _ hy)))
    rw [List.length_erase_of_mem hx] at this
    have hp : 0 < m.length := List.length_pos_of_mem hx
    simp
    omega
theorem port_inj {r : Rl} {start : Int} {a b : Nat} (hs : 0 ≤ start) (ha : (a : Int) < manyR r) (hb : (b : Int) < manyR r) (h : portN r start a = portN r start b) : a = b := by
  unfold portN at h
  have h1 : (start + a) % manyR r = (start + b) % manyR r := by omega
  have h2 := Int.emod_emod_of_dvd (start + (a : Int)) (Int.dvd_refl (manyR r))
  have h3 : ((start + (a : Int)) - (start + (b : Int))) % manyR r = 0 := by
    rw [Int.sub_emod, h1]; simp
  have h4 : ((a : Int) - b) % manyR r = 0 := by
    have e : (start + (a : Int)) - (start + (b : Int)) = (a : Int) - b := by omega
    rwa [e] at h3
  obtain ⟨q, hq⟩ := Int.dvd_of_emod_eq_zero h4
  have hm : 0 < manyR r := by omega
  rcases (by omega : q ≤ -1 ∨ q = 0 ∨ 1 ≤ q) with e | e | e
  · have := Int.mul_le_mul_of_nonneg_left e (Int.le_of_lt hm); omega
  · rw [e] at hq; omega
  · have := Int.mul_le_mul_of_nonneg_left e (Int.le_of_lt hm); omega
/-- each used tuple takes away its own port, and the other one -/
theorem used_port {used : List Tp} {r : Rl} {t : Tp} {start : Int} {k : Nat} (h : usedB used (nameK r t start k) = true) : portN r start k ∈ used.map (·.sport) ++ used.map (·.dport) := by
  rw [List.mem_append, List.mem_map, List.mem_map]
  rcases usedB_iff.1 h with q | q
  · exact .inl ⟨_, q, rfl⟩
  · exact .inr ⟨_, q, rfl⟩
theorem free_enough {used : List Tp} {r : Rl} {t : Tp} {start : Int} (hs : 0 ≤ start) (h : (2 * used.length + 1 : Int) ≤ manyR r) : freeF used (nameK r t start) 0 (2 * used.length + 1) ≠ none := by
  intro hn
  have hall := freeF_none hn
  have hnd : ((List.range (2 * used.length + 1)).map fun k : Nat => portN r start k).Nodup := by
    rw [List.Nodup, List.pairwise_map]
    refine List.Pairwise.imp_of_mem ?_ (List.nodup_range (n := 2 * used.length + 1))
    intro a b ha hb hne e
    exact hne (port_inj hs (by have := List.mem_range.1 ha; omega) (by have := List.mem_range.1 hb; omega) e)
  have := nodup_le hnd (m := used.map (·.sport) ++ used.map (·.dport)) (fun x hx => by
    obtain ⟨k, hk, rfl⟩ := List.mem_map.1 hx
    exact used_port (hall k (Nat.zero_le _) (by have := List.mem_range.1 hk; omega)))
  simp at this
  omega
/-- so many tries are as good as all -/
theorem free_same {used : List Tp} {r : Rl} {t : Tp} {start : Int} {n m : Nat} (hs : 0 ≤ start) (hm : (m : Int) = manyR r) (hn : n = min m (2 * used.length + 1)) : freeF used (nameK r t start) 0 n = freeF used (nameK r t start) 0 m := by
  by_cases h : m ≤ 2 * used.length + 1
  · rw [show n = m by omega]
  · have e : n = 2 * used.length + 1 := by omega
    subst e
    cases hf : freeF used (nameK r t start) 0 (2 * used.length + 1) with
    | none => exact absurd hf (free_enough hs (by omega))
    | some q =>
      have := freeF_some (m - (2 * used.length + 1)) hf
      rw [show 2 * used.length + 1 + (m - (2 * used.length + 1)) = m by omega] at this
      rw [this]
/-- as whom it goes on, of what is right -/
def goesF (l : List Rl) (t : Tp) (start : Int) (used : List Tp) : Option Tp :=
  if hasR l 1 (goalT l t) = true then freeF used (nameK (foundR l 1 (goalT l t)) (goalT l t) start) 0 (manyR (foundR l 1 (goalT l t))).toNat
  else if usedB used (goalT l t) = true then none else some (goalT l t)
def goesOk (l : List Rl) (t : Tp) (start : Int) (used : List Tp) : Bool := rulesB l && rightT t && (decide (0 ≤ start) && decide (start ≤ 1000000)) && decide (used.length ≤ 60) && allT used
def codeF : Option Tp → Int
  | none => 9
  | some _ => 0
def tupF : Option Tp → Tp
  | none => zeroTp
  | some t => t
def goesC (l : List Rl) (t : Tp) (start : Int) (used : List Tp) : Int :=
  if 400 < l.length ∨ 400 < used.length then 2 else if goesOk l t start used = true then codeF (goesF l t start used) else 1
def goesT (l : List Rl) (t : Tp) (start : Int) (used : List Tp) : Tp :=
  if 400 < l.length ∨ 400 < used.length then zeroTp else if goesOk l t start used = true then tupF (goesF l t start used) else zeroTp
end Go.Proofs.Ytilajoafppplcaa
end

section
namespace Go.Proofs.Ytilajoafppplcaa
set_option linter.unusedVariables false

theorem take_none {l : List Rl} {k : Nat} {K : Int} {t : Tp} (h : ∀ r ∈ l.take k, forR r K t = false) : firstR l K t = firstR (l.drop k) K t := by
  have := firstR_none (b := l.drop k) h
  rwa [List.take_append_drop] at this
theorem first_here {l : List Rl} {k : Nat} {K : Int} {t : Tp} (hk : k < l.length) (h : ∀ r ∈ l.take k, forR r K t = false) (hr : forR (l.getD k zeroRl) K t = true) : foundR l K t = l.getD k zeroRl ∧ hasR l K t = true := by
  have e := take_none h
  rw [List.drop_eq_getElem_cons hk] at e
  have hg : l.getD k zeroRl = l[k] := by simp [hk]
  rw [hg] at hr ⊢
  have e2 : firstR l K t = some l[k] := e.trans (if_pos hr)
  unfold foundR hasR
  rw [e2]
  exact ⟨rfl, rfl⟩
theorem first_end {l : List Rl} {K : Int} {t : Tp} (h : ∀ r ∈ l.take l.length, forR r K t = false) : foundR l K t = zeroRl ∧ hasR l K t = false := by
  have e := take_none h
  rw [List.drop_length] at e
  unfold foundR hasR
  rw [e]
  exact ⟨rfl, rfl⟩
theorem take_more {l : List Rl} {k : Nat} {K : Int} {t : Tp} (hk : k < l.length) (h : ∀ r ∈ l.take k, forR r K t = false) (hr : forR (l.getD k zeroRl) K t = false) : ∀ r ∈ l.take (k + 1), forR r K t = false := by
  intro r hm
  rw [List.take_succ_eq_append_getElem hk] at hm
  have hg : l.getD k zeroRl = l[k] := by simp [hk]
  rw [hg] at hr
  rcases List.mem_append.1 hm with q | q
  · exact h r q
  · simp at q; rw [q]; exact hr
theorem allR_get {l : List Rl} {k : Nat} (hk : k < l.length) (h : allR l = true) : rightR (l.getD k zeroRl) = true := allR_iff.1 h _ (by simp [hk])
/-- does a rule hold, its kind aside? -/
def isForB (r : Rl) (t : Tp) : Bool := (r.proto == 0 || r.proto == t.proto) && inNetB (namedA r.kind t) r.net r.bits
theorem for_is {r : Rl} {k : Int} {t : Tp} (hr : rightR r = true) (ht : rightT t = true) : forR r k t = (r.kind == k && isForB r t) := by
  unfold forR isForB
  cases h : (r.kind == k)
  · rfl
  · have e : r.kind = k := by simpa using h
    rw [e, inNet_right hr ht, Bool.and_assoc]
end Go.Proofs.Ytilajoafppplcaa
end

section
namespace Go.Proofs.Ytilajoafppplcaa
set_option linter.unusedVariables false

theorem found_right {l : List Rl} {k : Int} {t : Tp} (hl : allR l = true) (h : hasR l k t = true) : rightR (foundR l k t) = true := by
  unfold hasR at h
  unfold foundR
  cases hf : firstR l k t with
  | none => rw [hf] at h; cases h
  | some r => exact allR_iff.1 hl r (firstR_mem hf).1
theorem right_of {t : Tp} : rightT t = true ↔ addrB t.src = true ∧ addrB t.dst = true ∧ wordB t.sport = true ∧ wordB t.dport = true ∧ ((t.proto = 1 ∧ echoB t.kind = true ∧ t.sport = t.dport) ∨ (t.proto ≠ 1 ∧ (t.proto = 6 ∨ t.proto = 17) ∧ t.kind = 0)) := by
  unfold rightT
  by_cases h : t.proto = 1
  · rw [if_pos h]; simp [h, and_assoc]
  · rw [if_neg h]; simp [h, and_assoc]
theorem goal_right {l : List Rl} {t : Tp} (hl : allR l = true) (ht : rightT t = true) : rightT (goalT l t) = true := by
  unfold goalT
  cases hh : hasR l 2 t
  · simpa using ht
  · rw [if_pos rfl]
    obtain ⟨_, _, _, h4, h5, _, _, _⟩ := right_parts (found_right hl hh)
    obtain ⟨a, b, c, d, e⟩ := right_of.1 ht
    refine right_of.2 ⟨a, h4, c, ?_, ?_⟩
    · show wordB (if 0 < _ ∧ t.proto ≠ 1 then _ else _) = true
      split
      · exact h5
      · exact d
    · rcases e with ⟨p, q, r⟩ | ⟨p, q, r⟩
      · left
        refine ⟨p, q, ?_⟩
        show t.sport = if 0 < _ ∧ t.proto ≠ 1 then _ else t.dport
        rw [if_neg (by simp [p])]; exact r
      · exact .inr ⟨p, q, r⟩
theorem port_word {r : Rl} (hr : rightR r = true) {start k : Int} (hs : 0 ≤ start) (hk : 0 ≤ k) : r.low ≤ portN r start k ∧ portN r start k ≤ r.high ∧ wordB (portN r start k) = true := by
  obtain ⟨_, _, _, _, h5, h6, h7, _⟩ := right_parts hr
  obtain ⟨a1, a2⟩ := word_iff.1 h5
  obtain ⟨b1, b2⟩ := word_iff.1 h6
  have hm : 0 < manyR r := by unfold manyR; omega
  have e1 := Int.emod_nonneg (start + k) (by omega : manyR r ≠ 0)
  have e2 := Int.emod_lt_of_pos (start + k) hm
  have e3 : manyR r = r.high - r.low + 1 := rfl
  unfold portN
  exact ⟨by omega, by omega, word_iff.2 ⟨by omega, by omega⟩⟩
theorem name_right {r : Rl} {t : Tp} (hr : rightR r = true) (ht : rightT t = true) {start : Int} (hs : 0 ≤ start) (k : Nat) : rightT (nameK r t start k) = true := by
  obtain ⟨a, b, c, d, e⟩ := right_of.1 ht
  have hp := (port_word hr hs (by omega : (0 : Int) ≤ (k : Int))).2.2
  have hg := (right_parts hr).2.2.2.1
  refine right_of.2 ⟨hg, b, hp, ?_, ?_⟩
  · show wordB (if t.proto = 1 then _ else t.dport) = true
    split
    · exact hp
    · exact d
  · rcases e with ⟨p, q, r'⟩ | ⟨p, q, r'⟩
    · left
      refine ⟨p, q, ?_⟩
      show portN r start k = if t.proto = 1 then portN r start k else t.dport
      rw [if_pos p]
    · exact .inr ⟨p, q, r'⟩
theorem many_bd {r : Rl} (hr : rightR r = true) : 1 ≤ manyR r ∧ manyR r ≤ 65536 := by
  obtain ⟨_, _, _, _, h5, h6, h7, _⟩ := right_parts hr
  obtain ⟨a1, a2⟩ := word_iff.1 h5
  obtain ⟨b1, b2⟩ := word_iff.1 h6
  unfold manyR
  omega
theorem freeF_succ {used : List Tp} {f : Nat → Tp} {k n : Nat} (h : usedB used (f k) = true) : freeF used f k (n + 1) = freeF used f (k + 1) n := by
  show (if usedB used (f k) = true then _ else _) = _
  rw [if_pos h]
theorem freeF_here {used : List Tp} {f : Nat → Tp} {k n : Nat} (h : usedB used (f k) = false) : freeF used f k (n + 1) = some (f k) := by
  show (if usedB used (f k) = true then _ else _) = _
  rw [h]; simp
end Go.Proofs.Ytilajoafppplcaa
end
