/- Proved here: nothing of a program: what lasts while a walker walks and others add and cut between its steps: what it misses was not there at some time, what it finds was linked at some time. · Proved here: nothing of a program: kinds of values that are answers of slabs, how they stand to a block that is made, told in a region. · Proved here: small facts on byte slices of a call's own: what is written stays, a byte appended, the slice turned into a string. -/
import Derived.Test.YtfjgofmjhccdkaaRaceMath
import Derived.Test.YtfjgofmjhccdkaaAll12
import Derived.Test.YtfjgofmjhccdkaaAll10
import Derived.Test.YtfjgofmjhccdkaaAll17
import Derived.Test.YtfjgofmjhccdkaaRows
import Derived.WalkKit
import Derived.WalkSpells
import Derived.ProofKit
import Derived.OpenShut
import Derived.ShutString
import Derived.Handy
import Derived.Below
import Derived.Laws.BitsAllLaws
import Derived.Laws.IdiomStrings
section
namespace Go.Proofs.Ytfjgofmjhccdkaa
open Go.ChangeShapes Go.WideShapes Go.ChangeAt Go.RowKit
set_option linter.unusedVariables false
set_option linter.unusedSimpArgs false
set_option maxRecDepth 100000

/-- who holds each slot: its chain, if it is linked, and the walker, if it holds it -/
def RRefs (s : Slb) (st cur : Int) : Prop := ∀ n : Int, 0 ≤ n → n < s.slots.length → (slotN s n).refs = (if findSl s (kyN s n) = n then 1 else 0) + (if st = 2 ∧ cur = n then 1 else 0)
theorem key_right {s : Slb} (hr : rightSl s = true) {n : Int} (h0 : 0 ≤ n) (h1 : n < s.slots.length) : 0 ≤ kyN s n ∧ kyN s n ≤ 999 := by
  have := ok_get (rt_of hr).sl (k := n.toNat) (by omega)
  exact key_iff.1 this.1
theorem refs_zero {s : Slb} (hr : rightSl s = true) (h : ∀ n : Int, 0 ≤ n → n < s.slots.length → (slotN s n).refs = 0) (cur : Int) : RRefs s 0 cur := fun n h0 h1 => by
  rw [h n h0 h1, if_neg (show ¬ ((0 : Int) = 2 ∧ cur = n) by omega), if_neg (fun e : findSl s (kyN s n) = n => ?_)]
  · rfl
  · have hk := (key_right hr h0 h1).1
    have := (find_slot hr hk (by omega)).2.1
    rw [e] at this
    exact this (h n h0 h1)
theorem refs_add {s : Slb} {kk st cur : Int} (h : addC s kk = 0) (hR : RRefs s st cur) : RRefs (addIn s kk) st cur := by
  obtain ⟨a1, a2, a3, a4, a5, a6, a7⟩ := add_facts h
  obtain ⟨b1, b2, b3, b4, b5, b6, b7, _⟩ := add_more h
  intro n h0 h1
  rw [b6] at h1
  have hN := hR (freeK s.slots : Int) (by omega) (by omega)
  rw [slot_nat, a4] at hN
  have hst : ¬ (st = 2 ∧ cur = (freeK s.slots : Int)) := by
    intro e
    rw [if_pos e] at hN
    split at hN <;> omega
  by_cases e : n = (freeK s.slots : Int)
  · subst e
    have : kyN (addIn s kk) (freeK s.slots : Int) = kk := b2
    rw [b3, this, a2, if_pos rfl, if_neg hst]
    rfl
  · have hk : kyN (addIn s kk) n = kyN s n := by unfold kyN; rw [b1 n h0 e]
    rw [b1 n h0 e, hk, hR n h0 h1]
    have hk0 := (key_right a6 h0 h1).1
    by_cases e2 : kyN s n = kk
    · rw [e2, a2, if_neg (show ¬ findSl s kk = n by omega), if_neg (show ¬ (freeK s.slots : Int) = n from fun q => e q.symm)]
    · rw [b4 _ hk0 e2]
theorem refs_cut {s : Slb} {kk st cur : Int} (h : cutC s kk = 0) (hR : RRefs s st cur) : RRefs (cutIn s kk) st cur := by
  obtain ⟨a1, a2, a3, a4, a5⟩ := cut_facts h
  obtain ⟨b1, b2, b3, b4, _⟩ := cut_more h
  intro n h0 h1
  rw [cutIn_len.1] at h1
  obtain ⟨c1, c2, c3⟩ := b1 n h0
  have hk0 := (key_right a4 h0 h1).1
  obtain ⟨k0, _⟩ := key_iff.1 a5
  by_cases e : n = findSl s kk
  · have hky : kyN s n = kk := by rw [e]; exact (find_slot a4 k0 b3).1
    have hn := hR n h0 h1
    rw [hky, if_pos e.symm] at hn
    rw [c1, hky, a2, if_neg (show ¬ (-1 : Int) = n by omega)]
    rw [e] at hn ⊢
    rw [b2, hn]
    omega
  · rw [c1, c3 e, hR n h0 h1]
    by_cases e2 : kyN s n = kk
    · rw [e2, a2, if_neg (show ¬ findSl s kk = n from fun q => e q.symm), if_neg (show ¬ (-1 : Int) = n by omega)]
    · rw [a3 _ hk0 e2]
/-- holders alone change: nothing else does -/
theorem ref_same (s : Slb) (n r : Int) : (∀ y, nx (refS s n r) y = nx s y) ∧ (∀ y, kyN (refS s n r) y = kyN s y) ∧ (∀ y, (slotN (refS s n r) y).gen = (slotN s y).gen) := by
  have h : ∀ y, (slotN (refS s n r) y).next = (slotN s y).next ∧ (slotN (refS s n r) y).key = (slotN s y).key ∧ (slotN (refS s n r) y).gen = (slotN s y).gen := by
    intro y
    unfold refS slotN
    simp only
    by_cases hl : n.toNat < s.slots.length
    · by_cases e : y.toNat = n.toNat
      · rw [e]; simp [List.getD_eq_getElem?_getD, hl]
      · simp [List.getD_eq_getElem?_getD, List.getElem?_set_ne (Ne.symm e)]
    · rw [List.set_eq_of_length_le (by omega)]
      exact ⟨rfl, rfl, rfl⟩
  exact ⟨fun y => (h y).1, fun y => (h y).2.1, fun y => (h y).2.2⟩
theorem ref_chain (s : Slb) (n r : Int) : ∀ (f : Nat) (x : Int), chainL (refS s n r) f x = chainL s f x
  | 0, x => rfl
  | f + 1, x => by
    unfold chainL
    rw [(ref_same s n r).1, ref_chain s n r f]
theorem ref_find (s : Slb) (n r key : Int) : findSl (refS s n r) key = findSl s key := by
  unfold findSl chainOf
  rw [refS_len, refS_heads, ref_chain]
  exact find_congr (fun y _ => (ref_same s n r).2.1 y)
theorem ref_lead {s : Slb} {n r own a x : Int} (h : Lead s own a x) : Lead (refS s n r) own a x := by
  induction h with
  | here => exact .here
  | other h1 h2 => exact .other h1 h2
  | step h1 _ ih => exact .step h1 (by rw [(ref_same s n r).1]; exact ih)
/-- what lasts ahead of each turn -/
structure RInv (s : Slb) (k : Wlk) (ab : Bool) (sl gs : List Int) : Prop where
  r : rightSl s = true
  w : wkR s k = true
  key : k.key = 3
  st : k.state = 0
  refs : RRefs s k.stage k.cur
  lead : ab = false → 0 ≤ findSl s 3 → k.stage = 0 → Lead s (chN s 3) (findSl s 3) k.cur
  held : k.stage = 2 → kyN s k.cur = 3 → (k.cur, (slotN s k.cur).gen) ∈ sl.zip gs
  len : sl.length = gs.length
/-- .. and when the key was looked for -/
structure ROb (s : Slb) (k : Wlk) (ab : Bool) (sl gs : List Int) : Prop extends RInv s k ab sl gs where
  seen : ab = false → 0 ≤ findSl s 3
  told : 0 ≤ findSl s 3 → (findSl s 3, (slotN s (findSl s 3)).gen) ∈ sl.zip gs
theorem ob_not {s : Slb} {k : Wlk} {ab : Bool} {sl gs : List Int} (h : RInv s k ab sl gs) (hn : findSl s 3 < 0) : ROb s k true sl gs :=
  { h with lead := fun e => by cases e
           seen := fun e => by cases e
           told := fun e => by omega }
theorem ob_yes {s : Slb} {k : Wlk} {ab : Bool} {sl gs : List Int} (h : RInv s k ab sl gs) (hn : 0 ≤ findSl s 3) : ROb s k ab (sl ++ [findSl s 3]) (gs ++ [(slotN s (findSl s 3)).gen]) := by
  have hz : (sl ++ [findSl s 3]).zip (gs ++ [(slotN s (findSl s 3)).gen]) = sl.zip gs ++ [(findSl s 3, (slotN s (findSl s 3)).gen)] := by
    rw [List.zip_append h.len]; rfl
  exact { h with held := fun e1 e2 => by rw [hz]; exact List.mem_append_left _ (h.held e1 e2)
                 len := by simp [h.len]
                 seen := fun _ => hn
                 told := fun _ => by rw [hz]; simp }
theorem wk_keep {s s' : Slb} {k : Wlk} (h : wkR s k = true) (hs : k.state = 0) (l1 : s'.slots.length = s.slots.length) (l2 : s'.heads.length = s.heads.length) (hR : RRefs s' k.stage k.cur) : wkR s' k = true := by
  obtain ⟨h1, h2, h3, h4⟩ := wk_parts.1 h
  obtain ⟨z1, z2⟩ := out_zero h3 hs
  obtain ⟨p1, p2, p3, p4⟩ := place_cur h2
  refine wk_parts.2 ⟨h1, ?_, out_of_zero (.inl hs) z1 z2, h4⟩
  unfold placeB at h2 ⊢
  by_cases e0 : k.stage = 0
  · rw [if_pos e0] at h2 ⊢; rw [l1, l2]; exact h2
  · rw [if_neg e0] at h2 ⊢
    by_cases e1 : k.stage = 1
    · rw [if_pos e1] at h2 ⊢; rw [l1]; exact h2
    · rw [if_neg e1] at h2 ⊢
      have e2 : k.stage = 2 := by omega
      rw [if_pos e2] at h2 ⊢
      rw [Bool.and_eq_true] at h2
      obtain ⟨q1, q2⟩ := in_iff.1 h2.1
      have hr := hR k.cur q1 (by omega)
      rw [if_pos (show k.stage = 2 ∧ k.cur = k.cur from ⟨e2, rfl⟩)] at hr
      rw [l1, h2.1, Bool.true_and]
      unfold linkedB
      have ek : (slotN s' k.cur).key = kyN s' k.cur := rfl
      rw [ek]
      by_cases ef : findSl s' (kyN s' k.cur) = k.cur
      · rw [if_pos ef] at hr
        rw [decide_eq_true (by omega : 2 ≤ (slotN s' k.cur).refs)]
        rfl
      · rw [if_neg ef] at hr
        rw [beq_eq_false_iff_ne.2 ef, decide_eq_true (by omega : (slotN s' k.cur).refs = 1)]
        simp
theorem place_slot {s : Slb} {k : Wlk} (h : wkR s k = true) (h0 : k.stage ≠ 0) : 0 ≤ k.cur ∧ k.cur < s.slots.length := by
  obtain ⟨_, h2, _⟩ := wk_parts.1 h
  obtain ⟨p1, p2, p3, p4⟩ := place_cur h2
  by_cases e : k.cur < 0
  · exact absurd (p1 e).1 h0
  · exact ⟨by omega, p2 (by omega)⟩
theorem inv_add {s : Slb} {k : Wlk} {ab : Bool} {sl gs : List Int} {kk : Int} (h : ROb s k ab sl gs) (ha : addC s kk = 0) : RInv (addIn s kk) k ab sl gs := by
  obtain ⟨a1, a2, a3, a4, a5, a6, a7⟩ := add_facts ha
  obtain ⟨b1, b2, b3, b4, b5, b6, b7, b8⟩ := add_more ha
  have hR := refs_add ha h.refs
  have hch : chN (addIn s kk) 3 = chN s 3 := by unfold chN; rw [b7]
  refine ⟨a1, wk_keep h.w h.st b6 b7 hR, h.key, h.st, hR, fun e1 e2 e3 => ?_, fun e1 e2 => ?_, h.len⟩
  · have hs := h.seen e1
    by_cases e : kk = 3
    · subst e; omega
    · rw [b4 3 (by omega) (fun q => e q.symm)] at e2 ⊢
      rw [hch]
      exact b8 3 k.cur (by omega) hs (h.lead e1 hs e3)
  · obtain ⟨q1, q2⟩ := place_slot h.w (by omega)
    have hN := h.refs k.cur q1 q2
    rw [if_pos (show k.stage = 2 ∧ k.cur = k.cur from ⟨e1, rfl⟩)] at hN
    have hne : k.cur ≠ (freeK s.slots : Int) := by
      intro e
      rw [e, slot_nat, a4] at hN
      split at hN <;> omega
    rw [b1 k.cur q1 hne]
    refine h.held e1 ?_
    unfold kyN at e2 ⊢
    rwa [b1 k.cur q1 hne] at e2
theorem inv_cut {s : Slb} {k : Wlk} {ab : Bool} {sl gs : List Int} {kk : Int} (h : ROb s k ab sl gs) (ha : cutC s kk = 0) : RInv (cutIn s kk) k ab sl gs := by
  obtain ⟨a1, a2, a3, a4, a5⟩ := cut_facts ha
  obtain ⟨b1, b2, b3, b4, b5⟩ := cut_more ha
  have hR := refs_cut ha h.refs
  have hch : chN (cutIn s kk) 3 = chN s 3 := by unfold chN; rw [cutIn_len.2]
  refine ⟨a1, wk_keep h.w h.st cutIn_len.1 cutIn_len.2 hR, h.key, h.st, hR, fun e1 e2 e3 => ?_, fun e1 e2 => ?_, h.len⟩
  · have hs := h.seen e1
    by_cases e : kk = 3
    · subst e; rw [a2] at e2; omega
    · rw [a3 3 (by omega) (fun q => e q.symm)] at e2 ⊢
      rw [hch]
      refine b5 _ _ _ (fun q => e ?_) (h.lead e1 hs e3)
      obtain ⟨k0, _⟩ := key_iff.1 a5
      rw [← (find_slot a4 k0 b3).1, ← q, (find_slot a4 (by omega) hs).1]
  · obtain ⟨q1, q2⟩ := place_slot h.w (by omega)
    obtain ⟨c1, c2, c3⟩ := b1 k.cur q1
    rw [c2]
    exact h.held e1 (by rw [← c1]; exact e2)
theorem ob_code {s : Slb} {k : Wlk} {ab : Bool} {sl gs : List Int} (h : RInv s k ab sl gs) (hs : k.steps < 1000000) : stepC s k = 0 ∧ goB k = true := by
  constructor
  · unfold stepC wkRight
    rw [h.r, h.w, if_pos (by rfl), if_pos h.st, if_pos hs]
  · unfold goB; simp [h.st, hs]
/-- A STEP -/
theorem inv_step {s : Slb} {k : Wlk} {ab : Bool} {sl gs : List Int} (h : ROb s k ab sl gs) (hs : k.steps < 1000000) :
    ((stepP s k).2.state = 2 → ab = true) ∧
    ((stepP s k).2.state = 1 → ((stepP s k).2.slot, (stepP s k).2.gen) ∈ sl.zip gs ∧ 0 ≤ (stepP s k).2.slot ∧ (stepP s k).2.slot < s.slots.length ∧ (stepP s k).1 = s ∧ kyN s (stepP s k).2.slot = 3 ∧ 1 ≤ (slotN s (stepP s k).2.slot).refs) ∧
    ((stepP s k).2.state ≠ 2 → (stepP s k).2.state ≠ 1 → RInv (stepP s k).1 (stepP s k).2 ab sl gs) := by
  obtain ⟨hc, hg⟩ := ob_code h.toRInv hs
  obtain ⟨hr2, hw2⟩ := step_right h.r h.w hg
  obtain ⟨hkk, hss, _, _⟩ := step_key s k
  have hn3 := (rt_sizes (rt_of h.r).sz).2.2.1
  obtain ⟨hcl, hce⟩ := chN_lt (s := s) (key := 3) (by omega) hn3
  have hown : k.key.tmod s.heads.length = (chN s 3 : Int) := by rw [h.key]; exact hce.symm
  have hhd : hdK s k.key = s.heads.getD (chN s 3) 0 := by unfold hdK; rw [h.key]
  have hLH : ab = false → Lead s (chN s 3) (findSl s 3) (hdK s k.key) := fun e => by rw [hhd]; exact lead_head h.r (by omega) (h.seen e) hcl
  obtain ⟨_, hp, _, _⟩ := wk_parts.1 h.w
  obtain ⟨pc1, pc2, pc3, pc4⟩ := place_cur hp
  -- what stays at the slab itself
  have hsame : ∀ k2 : Wlk, k.stage ≠ 2 → k2.stage ≠ 2 → RRefs s k2.stage k2.cur := fun k2 e1 e2 n h0 h1 => by
    rw [h.refs n h0 h1, if_neg (fun q : k.stage = 2 ∧ k.cur = n => e1 q.1), if_neg (fun q : k2.stage = 2 ∧ k2.cur = n => e2 q.1)]
  have key3 : ∀ k2 : Wlk, k2.key = k.key → k2.key = 3 := fun k2 e => e.trans h.key
  by_cases hcur : k.cur < 0
  · obtain ⟨e0, e1⟩ := pc1 hcur
    by_cases he : -1 - k.cur = k.key.tmod s.heads.length
    · have E : stepP s k = (s, { k with steps := k.steps + 1, state := 2 }) := by unfold stepP; rw [if_pos hcur, if_pos he]
      rw [E]
      refine ⟨fun _ => ?_, by simp, by simp⟩
      cases hab : ab
      · exfalso
        have hl := h.lead hab (h.seen hab) e0
        have ec : k.cur = -1 - (chN s 3 : Int) := by rw [hown] at he; omega
        rw [ec] at hl
        exact lead_end (by omega) (h.seen hab) hl
      · rfl
    · have E : stepP s k = (s, { k with steps := k.steps + 1, cur := hdK s k.key }) := by unfold stepP; rw [if_pos hcur, if_neg he]
      rw [E] at hr2 hw2 ⊢
      have hst : k.state = 0 := h.st
      refine ⟨fun q => by simp only at q; omega, fun q => by simp only at q; omega, fun _ _ => ⟨hr2, hw2, h.key, h.st, hsame _ (by omega) (by show k.stage ≠ 2; omega), fun e _ _ => hLH e, fun q => by simp only at q; omega, h.len⟩⟩
  · obtain ⟨q0, q1⟩ : 0 ≤ k.cur ∧ k.cur < s.slots.length := ⟨by omega, pc2 (by omega)⟩
    by_cases s0 : k.stage = 0
    · by_cases hq : (slotN s k.cur).key = k.key
      · have E : stepP s k = (s, { k with steps := k.steps + 1, stage := 1 }) := by unfold stepP; rw [if_neg hcur, if_pos s0, if_pos hq]
        rw [E] at hr2 hw2 ⊢
        have hst : k.state = 0 := h.st
        refine ⟨fun q => by simp only at q; omega, fun q => by simp only at q; omega, fun _ _ => ⟨hr2, hw2, h.key, h.st, hsame _ (by omega) (by show (1 : Int) ≠ 2; omega), fun _ _ q => by simp only at q; omega, fun q => by simp only at q; omega, h.len⟩⟩
      · have E : stepP s k = (s, { k with steps := k.steps + 1, cur := (slotN s k.cur).next }) := by unfold stepP; rw [if_neg hcur, if_pos s0, if_neg hq]
        rw [E] at hr2 hw2 ⊢
        have hst : k.state = 0 := h.st
        refine ⟨fun q => by simp only at q; omega, fun q => by simp only at q; omega, fun _ _ => ⟨hr2, hw2, h.key, h.st, hsame _ (by omega) (by show k.stage ≠ 2; omega), fun e _ _ => ?_, fun q => by simp only at q; omega, h.len⟩⟩
        have hl := h.lead e (h.seen e) s0
        refine lead_next hl q0 (fun q => hq ?_)
        rw [q, h.key]
        exact (find_slot h.r (by omega) (h.seen e)).1
    · by_cases s1 : k.stage = 1
      · by_cases hb : (slotN s k.cur).refs = 0 ∨ 1000000 ≤ (slotN s k.cur).refs
        · have E : stepP s k = (s, { k with steps := k.steps + 1, stage := 0, cur := hdK s k.key }) := by unfold stepP; rw [if_neg hcur, if_neg s0, if_pos s1, if_pos hb]
          rw [E] at hr2 hw2 ⊢
          have hst : k.state = 0 := h.st
          refine ⟨fun q => by simp only at q; omega, fun q => by simp only at q; omega, fun _ _ => ⟨hr2, hw2, h.key, h.st, hsame _ (by omega) (by show (0 : Int) ≠ 2; omega), fun e _ _ => hLH e, fun q => by simp only at q; omega, h.len⟩⟩
        · have E : stepP s k = (refS s k.cur ((slotN s k.cur).refs + 1), { k with steps := k.steps + 1, stage := 2 }) := by unfold stepP; rw [if_neg hcur, if_neg s0, if_pos s1, if_neg hb]
          rw [E] at hr2 hw2 ⊢
          have hst : k.state = 0 := h.st
          have hcr := h.refs k.cur q0 q1
          rw [if_neg (fun q : k.stage = 2 ∧ k.cur = k.cur => by omega)] at hcr
          have hlk : findSl s (kyN s k.cur) = k.cur := by
            by_cases e : findSl s (kyN s k.cur) = k.cur
            · exact e
            · rw [if_neg e] at hcr; omega
          refine ⟨fun q => by simp only at q; omega, fun q => by simp only at q; omega, fun _ _ => ⟨hr2, hw2, h.key, h.st, fun n h0 h1 => ?_, fun _ _ q => by simp only at q; omega, fun _ e => ?_, h.len⟩⟩
          · rw [refS_len] at h1
            rw [ref_find, (ref_same s _ _).2.1, slotN_refs q0 q1 h0]
            by_cases e : n = k.cur
            · subst e
              rw [if_pos rfl, if_pos hlk, if_pos (show (2 : Int) = 2 ∧ k.cur = k.cur from ⟨rfl, rfl⟩)]
              show (slotN s k.cur).refs + 1 = _
              rw [if_pos hlk] at hcr
              omega
            · rw [if_neg e, h.refs n h0 h1, if_neg (fun q : k.stage = 2 ∧ k.cur = n => by omega), if_neg (fun q : (2 : Int) = 2 ∧ k.cur = n => e q.2.symm)]
          · have e : kyN s k.cur = 3 := by rw [(ref_same s _ _).2.1] at e; exact e
            rw [e] at hlk
            have := h.told (by omega)
            rw [hlk] at this
            rw [(ref_same s _ _).2.2]
            exact this
      · have s2 : k.stage = 2 := by omega
        have hcr := h.refs k.cur q0 q1
        rw [if_pos (show k.stage = 2 ∧ k.cur = k.cur from ⟨s2, rfl⟩)] at hcr
        by_cases hq : (slotN s k.cur).key = k.key
        · have E : stepP s k = (s, { k with steps := k.steps + 1, state := 1, slot := k.cur, gen := (slotN s k.cur).gen }) := by unfold stepP; rw [if_neg hcur, if_neg s0, if_neg s1, if_pos hq]
          rw [E]
          have e3 : kyN s k.cur = 3 := hq.trans h.key
          refine ⟨by simp, fun _ => ⟨h.held s2 e3, q0, q1, rfl, e3, ?_⟩, by simp⟩
          show 1 ≤ (slotN s k.cur).refs
          split at hcr <;> omega
        · have E : stepP s k = (refS s k.cur ((slotN s k.cur).refs - 1), { k with steps := k.steps + 1, stage := 0, cur := hdK s k.key }) := by unfold stepP; rw [if_neg hcur, if_neg s0, if_neg s1, if_neg hq]
          rw [E] at hr2 hw2 ⊢
          have hst : k.state = 0 := h.st
          refine ⟨fun q => by simp only at q; omega, fun q => by simp only at q; omega, fun _ _ => ⟨hr2, hw2, h.key, h.st, fun n h0 h1 => ?_, fun e _ _ => ?_, fun q => by simp only at q; omega, h.len⟩⟩
          · rw [refS_len] at h1
            rw [ref_find, (ref_same s _ _).2.1, slotN_refs q0 q1 h0, if_neg (fun q : (0 : Int) = 2 ∧ hdK s k.key = n => by omega)]
            by_cases e : n = k.cur
            · subst e
              rw [if_pos rfl]
              show (slotN s k.cur).refs - 1 = _
              omega
            · rw [if_neg e, h.refs n h0 h1, if_neg (fun q : k.stage = 2 ∧ k.cur = n => e q.2.symm)]
          · have hch : chN (refS s k.cur ((slotN s k.cur).refs - 1)) 3 = chN s 3 := rfl
            rw [ref_find, hch]
            exact ref_lead (hLH e)
end Go.Proofs.Ytfjgofmjhccdkaa
end

section
namespace Go.Proofs.Ytfjgofmjhccdkaa
open Go.ChangeShapes Go.WideShapes Go.ChangeAt Go.RowKit
set_option linter.unusedVariables false
set_option linter.unusedSimpArgs false
set_option maxRecDepth 100000

/-- an answer that can be read -/
def outR (t : Slb) (pl c : Int) : Kp := fun v W => ∃ (aS : Option Addr) (cS : Nat) (aH : Option Addr) (cH : Nat), v = .agg #[.slice aS t.slots.length cS, .slice aH t.heads.length cH, .int .i64 pl, .int .i64 c] ∧ SlabZ aS aH t W
theorem outR_last (t : Slb) (pl c : Int) : LastsB (outR t pl c) := fun v W W' h hb => by
  obtain ⟨aS, cS, aH, cH, e, hz⟩ := h
  exact ⟨aS, cS, aH, cH, e, hz.later hb⟩
/-- an answer of its own memory -/
def soK (lo0 : Nat) (t : Slb) (pl c : Int) : Kp := fun v W => ∃ (aS : Option Addr) (cS : Nat) (aH : Option Addr) (cH lo hi : Nat), v = .agg #[.slice aS t.slots.length cS, .slice aH t.heads.length cH, .int .i64 pl, .int .i64 c] ∧ SlabO lo hi aS aH t W ∧ lo0 ≤ lo ∧ lo ≤ hi ∧ hi ≤ W.heap.size
theorem soK_last (lo0 : Nat) (t : Slb) (pl c : Int) : LastsB (soK lo0 t pl c) := fun v W W' h hb => by
  obtain ⟨aS, cS, aH, cH, lo, hi, e, hz, h1, h2, h3⟩ := h
  exact ⟨aS, cS, aH, cH, lo, hi, e, hz.later hb, h1, h2, Nat.le_trans h3 hb.size⟩
/-- how both stand to each other -/
def soR (lo0 : Nat) (t : Slb) (pl c : Int) : Value → Value → World → Prop := fun vc vx W => ∃ (aS : Option Addr) (cS : Nat) (aH : Option Addr) (cH lo hi B : Nat), vc = .agg #[.slice aS t.slots.length cS, .slice aH t.heads.length cH, .int .i64 pl, .int .i64 c] ∧ vx = .pointer (some ⟨B, 0, none⟩) ∧ SlabO lo hi aS aH t W ∧ lo0 ≤ lo ∧ lo ≤ hi ∧ hi ≤ W.heap.size ∧ lo0 ≤ B ∧ (B < lo ∨ hi ≤ B) ∧ B < W.heap.size
theorem soR_last (lo0 : Nat) (t : Slb) (pl c : Int) : ∀ a b W W', soR lo0 t pl c a b W → Below W.heap.size W W' → soR lo0 t pl c a b W' := fun a b W W' h hb => by
  obtain ⟨aS, cS, aH, cH, lo, hi, B, e1, e2, hz, h1, h2, h3, h4, h5, h6⟩ := h
  exact ⟨aS, cS, aH, cH, lo, hi, B, e1, e2, hz.later hb, h1, h2, Nat.le_trans h3 hb.size, h4, h5, Nat.lt_of_lt_of_le h6 hb.size⟩
theorem soR_call {lo0 : Nat} {t : Slb} {pl c : Int} {cs : Array Value} {ty : TypeId} {W W' : World} {vx : Value} {aS aH : Option Addr} {cS cH : Nat} (hx : madeK lo0 cs ty vx W) (hO : SlabO W.heap.size W'.heap.size aS aH t W') (h0 : lo0 ≤ W.heap.size) (hb : Below W.heap.size W W') :
    soR lo0 t pl c (.agg #[.slice aS t.slots.length cS, .slice aH t.heads.length cH, .int .i64 pl, .int .i64 c]) vx W' := by
  obtain ⟨B, e, h1, h2⟩ := hx
  exact ⟨aS, cS, aH, cH, W.heap.size, W'.heap.size, B, rfl, e, hO, h0, hb.size, Nat.le_refl _, h1, .inl (blk_lt h2), Nat.lt_of_lt_of_le (blk_lt h2) hb.size⟩
theorem soR_made {lo0 : Nat} {t : Slb} {pl c : Int} {W : World} {vc : Value} (o : Obj) (hc : soK lo0 t pl c vc W) (h0 : lo0 ≤ W.heap.size) : soR lo0 t pl c vc (.pointer (some ⟨W.heap.size, 0, none⟩)) (W.alloc o) := by
  obtain ⟨aS, cS, aH, cH, lo, hi, e, hz, h1, h2, h3⟩ := hc
  exact ⟨aS, cS, aH, cH, lo, hi, W.heap.size, e, rfl, hz.later ((Below.refl _ _).alloc (Nat.le_refl _) _), h1, h2, by simp; omega, h0, .inr h3, by simp⟩
/-- the slab of a row that is one's own and not empty, laid open -/
theorem own_rows {lo hi : Nat} {aS aH : Option Addr} {t : Slb} {W : World} (h : SlabO lo hi aS aH t W) (n1 : 1 ≤ t.slots.length) (n3 : 1 ≤ t.heads.length) :
    ∃ b2 o2 b3 o3, aS = some ⟨b2, o2, none⟩ ∧ aH = some ⟨b3, o3, none⟩ ∧ lo ≤ b2 ∧ lo ≤ b3 ∧ b2 < hi ∧ b3 < hi ∧ RowB b2 o2 (flat t.slots) W ∧ RowB b3 o3 t.heads W := by
  obtain ⟨b2, o2, e2, p1, p2, p3⟩ : ∃ b o, aS = some ⟨b, o, none⟩ ∧ lo ≤ b ∧ b < hi ∧ RowB b o (flat t.slots) W := by
    rcases h.slots with e | h
    · have := flat_len t.slots; rw [e] at this; simp at this; omega
    · exact h
  obtain ⟨b3, o3, e3, q1, q2, q3⟩ : ∃ b o, aH = some ⟨b, o, none⟩ ∧ lo ≤ b ∧ b < hi ∧ RowB b o t.heads W := by
    rcases h.heads with e | h
    · rw [e] at n3; simp at n3
    · exact h
  exact ⟨b2, o2, b3, o3, e2, e3, p1, q1, p2, q2, p3, q3⟩
theorem new_refs {n m : Int} : ∀ y : Int, (slotN (newSl n m) y).refs = 0 := by
  intro y
  unfold newSl
  split
  · unfold slotN zeroSlots
    simp only [List.getD_eq_getElem?_getD]
    by_cases h : y.toNat < n.toNat
    · rw [List.getElem?_replicate, if_pos h]; rfl
    · rw [List.getElem?_replicate, if_neg h]; rfl
  · rfl
theorem new_is {n m : Int} (h1 : 1 ≤ n) (h2 : n ≤ 24) (h3 : 1 ≤ m) (h4 : m ≤ 4) : rightSl (newSl n m) = true ∧ RRefs (newSl n m) 0 0 := by
  have hb : newB n m = true := by unfold newB; simp; omega
  have hr := new_right hb
  exact ⟨hr, refs_zero hr (fun y _ _ => new_refs y) 0⟩
end Go.Proofs.Ytfjgofmjhccdkaa
end

section
namespace Go.Proofs.Ytfjgofmjhccdkaa
open Go.ChangeShapes Go.WideShapes Go.ChangeAt Go.RowKit
open Go.ChangeMaps (open_string shut_string)
set_option linter.unusedVariables false

theorem ret_int' {k : IntKind} {a b : Int} (h : a = b) : Ending.returned (.int k a) = .returned (.int k b) := by rw [h]
theorem val_int' {k : IntKind} {a b : Int} (h : a = b) : Value.int k a = .int k b := by rw [h]

def bytesV (l : List UInt8) : List Value := l.map fun c => .int .u8 (c.toNat : Int)
theorem bytesV_snoc (l : List UInt8) (c : UInt8) : bytesV (l ++ [c]) = bytesV l ++ [.int .u8 (c.toNat : Int)] := by simp [bytesV]

theorem Try.infoU8 : (Try.prog.info? 5).map (fun i => (i.zero, i.size, i.bytes)) = some (some (.int .u8 0), 1, 1) := by kernel_rfl

theorem heap_new (w : World) (o : Obj) : (w.alloc o).heap[w.heap.size]? = some o := by show (w.heap.push o)[w.heap.size]? = _; simp

/-- a slice that owns the bytes l, as a string -/
theorem conv_own {w : World} {B : Nat} {v : Value} {l : List UInt8} (h : w.ownsRow B 5 1 v l.length (bytesV l)) :
    (convert 22 9 v).run Try.prog w = .ok (.string ⟨l.toArray⟩) w := by
  have h0 := h
  rcases h.2 with ⟨rfl, hn⟩ | ⟨g, cap, cur, rfl, hg, hh, hnc, hcp, hcs, htake⟩
  · obtain rfl : l = [] := List.length_eq_zero_iff.1 hn
    rw [run_convert_bytes_string w 22 9 5 none 0 0 Try.underlying22 Try.underlying5 Try.underlying9]
    simp [Conv.bytesToString]
    rfl
  · exact run_convert_bytes_back (P := Try.prog) w 22 9 5 ⟨g, 0, none⟩ cap l Try.underlying22 Try.underlying5 Try.underlying9 (fun j hj => by
      rw [Addr.add_lit, Nat.zero_add, h0.cellAt j (by omega)]
      simp [bytesV, hj])

theorem own_snoc {w : World} {B : Nat} {v : Value} {l : List UInt8} {c : UInt8} {x : Int} (hx : x = (c.toNat : Int)) (h : w.ownsRow B 5 1 v (l.length + 1) (bytesV l ++ [.int .u8 x])) :
    w.ownsRow B 5 1 v (l ++ [c]).length (bytesV (l ++ [c])) := by
  rw [bytesV_snoc, List.length_append, ← hx]; exact h

/-- behind a byte that was appended to a slice of the call's own -/
theorem below_app {B : Nat} {w wr w1 : World} {v : Value} {n : Nat} {xs : List Value} {o : Obj} (hbel : Below B w wr) (hB : B ≤ wr.heap.size) (hown : wr.ownsRow B 5 1 v n xs) (hg : (wr.alloc o).grownBy w1 v.ownBlock) : Below B w w1 :=
  (hbel.alloc hB o).grown hg (by simp; omega) (fun k hk => (hown.lt k hk).1)
end Go.Proofs.Ytfjgofmjhccdkaa
end
