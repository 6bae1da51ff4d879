/- Proved here: nothing of a program: what a walker is, when it is right, what a step of it does; a right walker stays right, its slab too. -/
import Derived.Test.YtjhkaideckgffaaSlabFactsA
namespace Go.Proofs.Ytjhkaideckgffaa
open Go.ChangeShapes Go.WideShapes Go.ChangeAt Go.RowKit
set_option linter.unusedVariables false
set_option linter.unusedSimpArgs false
set_option maxRecDepth 100000

/-- a walker -/
structure Wlk where
  key : Int
  cur : Int
  stage : Int
  state : Int
  slot : Int
  gen : Int
  steps : Int
/-- may it stand there at that stage? -/
def placeB (s : Slb) (c st : Int) : Bool :=
  if st = 0 then nextB s.slots.length s.heads.length c
  else if st = 1 then inB s.slots.length c
  else if st = 2 then inB s.slots.length c && (decide (2 ≤ (slotN s c).refs) || (decide ((slotN s c).refs = 1) && !linkedB s c))
  else false
/-- its state and what it tells beside it -/
def outB (s : Slb) (k : Wlk) : Bool :=
  if k.state = 0 ∨ k.state = 2 then decide (k.slot = 0) && decide (k.gen = 0)
  else if k.state = 1 then inB s.slots.length k.slot && timeB k.gen
  else false
/-- a right walker of a right slab -/
def wkR (s : Slb) (k : Wlk) : Bool := keyB k.key && (placeB s k.cur k.stage && (outB s k && timeB k.steps))
def wkRight (s : Slb) (k : Wlk) : Bool := rightSl s && wkR s k
/-- the head of a key's chain -/
def hdK (s : Slb) (key : Int) : Int := s.heads.getD (chN s key) 0
/-- a step -/
def stepP (s : Slb) (k : Wlk) : Slb × Wlk :=
  if k.cur < 0 then
    (if -1 - k.cur = k.key.tmod s.heads.length then (s, { k with steps := k.steps + 1, state := 2 }) else (s, { k with steps := k.steps + 1, cur := hdK s k.key }))
  else if k.stage = 0 then
    (if (slotN s k.cur).key = k.key then (s, { k with steps := k.steps + 1, stage := 1 }) else (s, { k with steps := k.steps + 1, cur := (slotN s k.cur).next }))
  else if k.stage = 1 then
    (if (slotN s k.cur).refs = 0 ∨ 1000000 ≤ (slotN s k.cur).refs then (s, { k with steps := k.steps + 1, stage := 0, cur := hdK s k.key }) else (refS s k.cur ((slotN s k.cur).refs + 1), { k with steps := k.steps + 1, stage := 2 }))
  else if (slotN s k.cur).key = k.key then (s, { k with steps := k.steps + 1, state := 1, slot := k.cur, gen := (slotN s k.cur).gen })
  else (refS s k.cur ((slotN s k.cur).refs - 1), { k with steps := k.steps + 1, stage := 0, cur := hdK s k.key })
/-- may it go on? -/
def goB (k : Wlk) : Bool := decide (k.state = 0) && decide (k.steps < 1000000)
/-- so many steps at most -/
def runP : Nat → Slb → Wlk → Slb × Wlk
  | 0, s, k => (s, k)
  | n + 1, s, k => if goB k = true then runP n (stepP s k).1 (stepP s k).2 else (s, k)
theorem refS_heads (s : Slb) (n r : Int) : (refS s n r).heads = s.heads := rfl
theorem refS_len (s : Slb) (n r : Int) : (refS s n r).slots.length = s.slots.length := by unfold refS; simp
theorem hd_next {s : Slb} (h : rightSl s = true) {key : Int} (hk : 0 ≤ key) : nextB s.slots.length s.heads.length (hdK s key) = true :=
  head_next (rt_of h) (chN_lt hk (rt_sizes (rt_of h).sz).2.2.1).1
theorem in_iff {n : Nat} {x : Int} : inB n x = true ↔ 0 ≤ x ∧ x < n := by unfold inB; simp
/-- where it stands -/
theorem place_cur {s : Slb} {c st : Int} (h : placeB s c st = true) : (c < 0 → st = 0 ∧ -1 - c < s.heads.length) ∧ (0 ≤ c → c < s.slots.length) ∧ 0 ≤ st ∧ st ≤ 2 := by
  unfold placeB at h
  split at h
  · rename_i e
    unfold nextB endB at h
    simp at h
    exact ⟨by omega, by omega, by omega, by omega⟩
  · split at h
    · obtain ⟨q1, q2⟩ := in_iff.1 h
      exact ⟨by omega, by omega, by omega, by omega⟩
    · split at h
      · simp only [Bool.and_eq_true] at h
        obtain ⟨q1, q2⟩ := in_iff.1 h.1
        exact ⟨by omega, by omega, by omega, by omega⟩
      · cases h
theorem wk_parts {s : Slb} {k : Wlk} : wkR s k = true ↔ (0 ≤ k.key ∧ k.key ≤ 999) ∧ placeB s k.cur k.stage = true ∧ outB s k = true ∧ 0 ≤ k.steps ∧ k.steps ≤ 1000000 := by
  unfold wkR
  simp only [Bool.and_eq_true, time_iff]
  unfold keyB
  simp
theorem out_zero {s : Slb} {k : Wlk} (h : outB s k = true) (h0 : k.state = 0) : k.slot = 0 ∧ k.gen = 0 := by
  unfold outB at h
  rw [if_pos (.inl h0)] at h
  simpa using h
theorem out_of_zero {s : Slb} {k : Wlk} (h : k.state = 0 ∨ k.state = 2) (h1 : k.slot = 0) (h2 : k.gen = 0) : outB s k = true := by
  unfold outB
  rw [if_pos h, h1, h2]
  rfl
theorem place_zero {s : Slb} {c : Int} (h : nextB s.slots.length s.heads.length c = true) : placeB s c 0 = true := by
  unfold placeB
  rw [if_pos rfl]
  exact h
/-- what is got at stage 1 -/
theorem step_get {s : Slb} {k : Wlk} (hr : rightSl s = true) (hw : wkR s k = true) (h1 : k.stage = 1) : 0 ≤ k.cur ∧ k.cur < s.slots.length ∧ (getC s k.cur = 0 ↔ ¬ ((slotN s k.cur).refs = 0 ∨ 1000000 ≤ (slotN s k.cur).refs)) := by
  obtain ⟨_, hp, _, _⟩ := wk_parts.1 hw
  rw [h1] at hp
  unfold placeB at hp
  rw [if_neg (by decide), if_pos rfl] at hp
  obtain ⟨q1, q2⟩ := in_iff.1 hp
  refine ⟨q1, q2, ?_⟩
  have ea : atB s k.cur = true := by unfold atB; rw [hr]; simp; omega
  unfold getC beginAns
  rw [if_pos ea]
  by_cases e : (slotN s k.cur).refs = 0
  · simp [e]
  · by_cases e2 : 1000000 ≤ (slotN s k.cur).refs
    · simp [e, e2]
    · simp [e, e2]
/-- what is put at stage 2 -/
theorem step_put {s : Slb} {k : Wlk} (hr : rightSl s = true) (hw : wkR s k = true) (h1 : k.stage = 2) : 0 ≤ k.cur ∧ k.cur < s.slots.length ∧ putC s k.cur = 0 := by
  obtain ⟨_, hp, _, _⟩ := wk_parts.1 hw
  rw [h1] at hp
  unfold placeB at hp
  rw [if_neg (by decide), if_neg (by decide), if_pos rfl, Bool.and_eq_true] at hp
  obtain ⟨q1, q2⟩ := in_iff.1 hp.1
  refine ⟨q1, q2, ?_⟩
  have ea : atB s k.cur = true := by unfold atB; rw [hr]; simp; omega
  have h2 := hp.2
  simp at h2
  have h3 : ¬ (slotN s k.cur).refs = 0 := by omega
  unfold putC beginAns
  rw [if_pos ea, if_neg h3, if_pos rfl]
  rcases h2 with h2 | h2
  · rw [if_neg (by omega)]
  · rw [if_neg (by rw [h2.2]; simp)]
theorem step_right {s : Slb} {k : Wlk} (hr : rightSl s = true) (hw : wkR s k = true) (hg : goB k = true) : rightSl (stepP s k).1 = true ∧ wkR (stepP s k).1 (stepP s k).2 = true := by
  obtain ⟨hk, hp, ho, ht⟩ := wk_parts.1 hw
  have hst : k.state = 0 ∧ k.steps < 1000000 := by unfold goB at hg; simpa using hg
  obtain ⟨hz1, hz2⟩ := out_zero ho hst.1
  obtain ⟨pc1, pc2, pc3, pc4⟩ := place_cur hp
  have hh : nextB s.slots.length s.heads.length (hdK s k.key) = true := hd_next hr hk.1
  unfold stepP
  by_cases hc : k.cur < 0
  · rw [if_pos hc]
    obtain ⟨e0, e1⟩ := pc1 hc
    split
    · exact ⟨hr, wk_parts.2 ⟨hk, hp, out_of_zero (.inr rfl) hz1 hz2, by show 0 ≤ k.steps + 1 ∧ k.steps + 1 ≤ 1000000; omega⟩⟩
    · refine ⟨hr, wk_parts.2 ⟨hk, ?_, out_of_zero (.inl hst.1) hz1 hz2, by show 0 ≤ k.steps + 1 ∧ k.steps + 1 ≤ 1000000; omega⟩⟩
      show placeB s (hdK s k.key) k.stage = true
      rw [e0]
      exact place_zero hh
  · rw [if_neg hc]
    obtain ⟨N, hN⟩ : ∃ N : Nat, k.cur = (N : Int) := ⟨k.cur.toNat, by omega⟩
    have hNl : N < s.slots.length := by have := pc2 (by omega); omega
    have hok := ok_get (rt_of hr).sl hNl
    have ex : slotN s k.cur = s.slots.getD N zeroSlt := by rw [hN, slot_nat]
    by_cases h0 : k.stage = 0
    · rw [if_pos h0]
      split
      · refine ⟨hr, wk_parts.2 ⟨hk, ?_, out_of_zero (.inl hst.1) hz1 hz2, by show 0 ≤ k.steps + 1 ∧ k.steps + 1 ≤ 1000000; omega⟩⟩
        show placeB s k.cur 1 = true
        unfold placeB
        rw [if_neg (by decide), if_pos rfl]
        exact in_iff.2 (by omega)
      · refine ⟨hr, wk_parts.2 ⟨hk, ?_, out_of_zero (.inl hst.1) hz1 hz2, by show 0 ≤ k.steps + 1 ∧ k.steps + 1 ≤ 1000000; omega⟩⟩
        show placeB s (slotN s k.cur).next k.stage = true
        rw [h0, ex]
        exact place_zero hok.2.2.2
    · rw [if_neg h0]
      by_cases h1 : k.stage = 1
      · rw [if_pos h1]
        obtain ⟨g1, g2, g3⟩ := step_get hr hw h1
        by_cases hb : (slotN s k.cur).refs = 0 ∨ 1000000 ≤ (slotN s k.cur).refs
        · rw [if_pos hb]
          exact ⟨hr, wk_parts.2 ⟨hk, place_zero hh, out_of_zero (.inl hst.1) hz1 hz2, by show 0 ≤ k.steps + 1 ∧ k.steps + 1 ≤ 1000000; omega⟩⟩
        · rw [if_neg hb]
          have eg := g3.2 hb
          have es : getS s k.cur = refS s k.cur ((slotN s k.cur).refs + 1) := by unfold getS; rw [if_pos eg]
          have hr2 := get_right eg
          rw [es] at hr2
          refine ⟨hr2, wk_parts.2 ⟨hk, ?_, out_of_zero (.inl hst.1) hz1 hz2, by show 0 ≤ k.steps + 1 ∧ k.steps + 1 ≤ 1000000; omega⟩⟩
          show placeB (refS s k.cur ((slotN s k.cur).refs + 1)) k.cur 2 = true
          have hpos : 0 ≤ (slotN s k.cur).refs := by rw [ex]; exact (refs_nat hr hNl).1
          have e2 : (slotN (refS s k.cur ((slotN s k.cur).refs + 1)) k.cur).refs = (slotN s k.cur).refs + 1 := by
            rw [hN]
            unfold refS slotN
            rw [Int.toNat_natCast]
            simp [List.getD_eq_getElem?_getD, hNl]
          unfold placeB
          rw [if_neg (by decide), if_neg (by decide), if_pos rfl, e2, refS_len, in_iff.2 ⟨g1, g2⟩, decide_eq_true (by omega : 2 ≤ (slotN s k.cur).refs + 1)]
          rfl
      · rw [if_neg h1]
        have h2 : k.stage = 2 := by omega
        obtain ⟨g1, g2, g3⟩ := step_put hr hw h2
        split
        · refine ⟨hr, wk_parts.2 ⟨hk, hp, ?_, by show 0 ≤ k.steps + 1 ∧ k.steps + 1 ≤ 1000000; omega⟩⟩
          unfold outB
          rw [if_neg (by simp), if_pos rfl]
          show (inB s.slots.length k.cur && timeB (slotN s k.cur).gen) = true
          rw [in_iff.2 ⟨g1, g2⟩, ex, hok.2.1]
          rfl
        · have es : putS s k.cur = refS s k.cur ((slotN s k.cur).refs - 1) := by unfold putS; rw [if_pos g3]
          have hr2 := put_right g3
          rw [es] at hr2
          refine ⟨hr2, wk_parts.2 ⟨hk, ?_, out_of_zero (.inl hst.1) hz1 hz2, by show 0 ≤ k.steps + 1 ∧ k.steps + 1 ≤ 1000000; omega⟩⟩
          show placeB (refS s k.cur ((slotN s k.cur).refs - 1)) (hdK s k.key) 0 = true
          apply place_zero
          rw [refS_len, refS_heads]
          exact hh
theorem step_key (s : Slb) (k : Wlk) : (stepP s k).2.key = k.key ∧ (stepP s k).2.steps = k.steps + 1 ∧ (stepP s k).1.heads = s.heads ∧ (stepP s k).1.slots.length = s.slots.length := by
  unfold stepP
  repeat' split
  all_goals first | exact ⟨rfl, rfl, rfl, rfl⟩ | exact ⟨rfl, rfl, rfl, refS_len _ _ _⟩
theorem run_go {n : Nat} {s : Slb} {k : Wlk} (h : goB k = true) : runP (n + 1) s k = runP n (stepP s k).1 (stepP s k).2 := by
  show (if goB k = true then _ else _) = _
  rw [if_pos h]
theorem run_stop {s : Slb} {k : Wlk} (h : goB k = false) : ∀ n, runP n s k = (s, k)
  | 0 => rfl
  | n + 1 => by
    show (if goB k = true then _ else _) = _
    rw [h]
    rfl
end Go.Proofs.Ytjhkaideckgffaa
