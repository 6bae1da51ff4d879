/- Proved here: nothing of a program: as whom a tuple goes on, as plain functions; that twice as many names as are used, and one, are as good as all (each used tuple takes two ports away at most). -/
import Derived.Test.YtpcflfhblomcoaaTupEq
import Derived.Test.YtpcflfhblomcoaaRuleMath
namespace Go.Proofs.Ytpcflfhblomcoaa
set_option linter.unusedVariables false

/-- is it one of them? -/
def hasT : List Tp → Tp → Bool
  | [], _ => false
  | u :: l, t => sameT t u || hasT l t
theorem hasT_iff : ∀ {l : List Tp} {t : Tp}, hasT l t = true ↔ t ∈ l
  | [], t => by simp [hasT]
  | u :: l, t => by rw [hasT, Bool.or_eq_true, sameT_iff, hasT_iff, List.mem_cons]
/-- it, or its other way -/
def usedB (used : List Tp) (t : Tp) : Bool := hasT used t || hasT used (invT t)
theorem usedB_iff {used : List Tp} {t : Tp} : usedB used t = true ↔ t ∈ used ∨ invT t ∈ used := by
  unfold usedB
  rw [Bool.or_eq_true, hasT_iff, hasT_iff]
/-- where it goes -/
def goalT (l : List Rl) (t : Tp) : Tp := if hasR l 2 t = true then ⟨t.proto, t.src, t.sport, (foundR l 2 t).goal, if 0 < (foundR l 2 t).low ∧ t.proto ≠ 1 then (foundR l 2 t).low else t.dport, t.kind⟩ else t
/-- with another sender -/
def senderT (t : Tp) (a p : Int) : Tp := ⟨t.proto, a, p, t.dst, if t.proto = 1 then p else t.dport, t.kind⟩
def manyR (r : Rl) : Int := r.high - r.low + 1
def portN (r : Rl) (start k : Int) : Int := r.low + (start + k) % manyR r
def nameK (r : Rl) (t : Tp) (start : Int) (k : Nat) : Tp := senderT t r.goal (portN r start k)
/-- the first of so many from k on that is not used -/
def freeF (used : List Tp) (f : Nat → Tp) : Nat → Nat → Option Tp
  | _, 0 => none
  | k, n + 1 => if usedB used (f k) = true then freeF used f (k + 1) n else some (f k)
theorem freeF_some {used : List Tp} {f : Nat → Tp} : ∀ {n k : Nat} (m : Nat) {t : Tp}, freeF used f k n = some t → freeF used f k (n + m) = some t
  | 0, k, m, t, h => by simp [freeF] at h
  | n + 1, k, m, t, h => by
    rw [show n + 1 + m = (n + m) + 1 by omega]
    unfold freeF at h ⊢
    split
    · rename_i q; rw [if_pos q] at h; exact freeF_some m h
    · rename_i q; rw [if_neg q] at h; exact h
theorem freeF_none {used : List Tp} {f : Nat → Tp} : ∀ {n k : Nat}, freeF used f k n = none → ∀ j, k ≤ j → j < k + n → usedB used (f j) = true
  | 0, k, h, j, h1, h2 => by omega
  | n + 1, k, h, j, h1, h2 => by
    unfold freeF at h
    split at h
    · rename_i q
      rcases (by omega : j = k ∨ k + 1 ≤ j) with e | e
      · subst e; exact q
      · exact freeF_none h j e (by omega)
    · cases h
/-- pigeonhole -/
theorem nodup_le : ∀ {l m : List Int}, l.Nodup → (∀ x ∈ l, x ∈ m) → l.length ≤ m.length
  | [], m, _, _ => Nat.zero_le _
  | x :: l, m, hn, hs => by
    obtain ⟨h1, h2⟩ := List.nodup_cons.1 hn
    have hx : x ∈ m := hs x (List.mem_cons_self ..)
    have := nodup_le (l := l) (m := m.erase x) h2 (fun y hy => by
      have hyx : y ≠ x := fun e => h1 (e ▸ hy)
      exact (List.mem_erase_of_ne hyx).2 (hs y (List.mem_cons_of_mem _ hy)))
    rw [List.length_erase_of_mem hx] at this
    have hp : 0 < m.length := List.length_pos_of_mem hx
    simp
    omega
theorem port_inj {r : Rl} {start : Int} {a b : Nat} (hs : 0 ≤ start) (ha : (a : Int) < manyR r) (hb : (b : Int) < manyR r) (h : portN r start a = portN r start b) : a = b := by
  unfold portN at h
  have h1 : (start + a) % manyR r = (start + b) % manyR r := by omega
  have h2 := Int.emod_emod_of_dvd (start + (a : Int)) (Int.dvd_refl (manyR r))
  have h3 : ((start + (a : Int)) - (start + (b : Int))) % manyR r = 0 := by
    rw [Int.sub_emod, h1]; simp
  have h4 : ((a : Int) - b) % manyR r = 0 := by
    have e : (start + (a : Int)) - (start + (b : Int)) = (a : Int) - b := by omega
    rwa [e] at h3
  obtain ⟨q, hq⟩ := Int.dvd_of_emod_eq_zero h4
  have hm : 0 < manyR r := by omega
  rcases (by omega : q ≤ -1 ∨ q = 0 ∨ 1 ≤ q) with e | e | e
  · have := Int.mul_le_mul_of_nonneg_left e (Int.le_of_lt hm); omega
  · rw [e] at hq; omega
  · have := Int.mul_le_mul_of_nonneg_left e (Int.le_of_lt hm); omega
/-- each used tuple takes away its own port, and the other one -/
theorem used_port {used : List Tp} {r : Rl} {t : Tp} {start : Int} {k : Nat} (h : usedB used (nameK r t start k) = true) : portN r start k ∈ used.map (·.sport) ++ used.map (·.dport) := by
  rw [List.mem_append, List.mem_map, List.mem_map]
  rcases usedB_iff.1 h with q | q
  · exact .inl ⟨_, q, rfl⟩
  · exact .inr ⟨_, q, rfl⟩
theorem free_enough {used : List Tp} {r : Rl} {t : Tp} {start : Int} (hs : 0 ≤ start) (h : (2 * used.length + 1 : Int) ≤ manyR r) : freeF used (nameK r t start) 0 (2 * used.length + 1) ≠ none := by
  intro hn
  have hall := freeF_none hn
  have hnd : ((List.range (2 * used.length + 1)).map fun k : Nat => portN r start k).Nodup := by
    rw [List.Nodup, List.pairwise_map]
    refine List.Pairwise.imp_of_mem ?_ (List.nodup_range (n := 2 * used.length + 1))
    intro a b ha hb hne e
    exact hne (port_inj hs (by have := List.mem_range.1 ha; omega) (by have := List.mem_range.1 hb; omega) e)
  have := nodup_le hnd (m := used.map (·.sport) ++ used.map (·.dport)) (fun x hx => by
    obtain ⟨k, hk, rfl⟩ := List.mem_map.1 hx
    exact used_port (hall k (Nat.zero_le _) (by have := List.mem_range.1 hk; omega)))
  simp at this
  omega
/-- so many tries are as good as all -/
theorem free_same {used : List Tp} {r : Rl} {t : Tp} {start : Int} {n m : Nat} (hs : 0 ≤ start) (hm : (m : Int) = manyR r) (hn : n = min m (2 * used.length + 1)) : freeF used (nameK r t start) 0 n = freeF used (nameK r t start) 0 m := by
  by_cases h : m ≤ 2 * used.length + 1
  · rw [show n = m by omega]
  · have e : n = 2 * used.length + 1 := by omega
    subst e
    cases hf : freeF used (nameK r t start) 0 (2 * used.length + 1) with
    | none => exact absurd hf (free_enough hs (by omega))
    | some q =>
      have := freeF_some (m - (2 * used.length + 1)) hf
      rw [show 2 * used.length + 1 + (m - (2 * used.length + 1)) = m by omega] at this
      rw [this]
/-- as whom it goes on, of what is right -/
def goesF (l : List Rl) (t : Tp) (start : Int) (used : List Tp) : Option Tp :=
  if hasR l 1 (goalT l t) = true then freeF used (nameK (foundR l 1 (goalT l t)) (goalT l t) start) 0 (manyR (foundR l 1 (goalT l t))).toNat
  else if usedB used (goalT l t) = true then none else some (goalT l t)
def goesOk (l : List Rl) (t : Tp) (start : Int) (used : List Tp) : Bool := rulesB l && rightT t && (decide (0 ≤ start) && decide (start ≤ 1000000)) && decide (used.length ≤ 60) && allT used
def codeF : Option Tp → Int
  | none => 9
  | some _ => 0
def tupF : Option Tp → Tp
  | none => zeroTp
  | some t => t
def goesC (l : List Rl) (t : Tp) (start : Int) (used : List Tp) : Int :=
  if 400 < l.length ∨ 400 < used.length then 2 else if goesOk l t start used = true then codeF (goesF l t start used) else 1
def goesT (l : List Rl) (t : Tp) (start : Int) (used : List Tp) : Tp :=
  if 400 < l.length ∨ 400 < used.length then zeroTp else if goesOk l t start used = true then tupF (goesF l t start used) else zeroTp
end Go.Proofs.Ytpcflfhblomcoaa
