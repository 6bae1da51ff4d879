/- Proved here: nothing of a program: what an added or a cut key leaves as it was; from where a linked slot is come to, whatever others add and cut. -/
import Derived.Test.YtfjgofmjhccdkaaSlabFacts2
import Derived.Test.YtfjgofmjhccdkaaAll11
namespace Go.Proofs.Ytfjgofmjhccdkaa
open Go.ChangeShapes Go.WideShapes Go.ChangeAt Go.RowKit
set_option linter.unusedVariables false
set_option linter.unusedSimpArgs false
set_option maxRecDepth 100000

/-- from there the slot a is come to, or the end of another chain -/
inductive Lead (s : Slb) (own a : Int) : Int → Prop
  | here : Lead s own a a
  | other {x : Int} : x < 0 → x ≠ -1 - own → Lead s own a x
  | step {x : Int} : 0 ≤ x → Lead s own a (nx s x) → Lead s own a x
theorem lead_chain {s : Slb} {own a c : Int} (hc0 : 0 ≤ c) : ∀ {l : List Int} {x : Int}, IsChain s c x l → (c = own → a ∈ l) → (∀ y ∈ l, 0 ≤ y) → Lead s own a x
  | [], x, h, ha, _ => by
    have h : x = -1 - c := h
    by_cases e : c = own
    · exact absurd (ha e) (by simp)
    · exact .other (by omega) (by omega)
  | y :: l, x, h, ha, h0 => by
    obtain ⟨e, h⟩ := h
    subst e
    by_cases e : y = a
    · subst e; exact .here
    · refine .step (h0 y (by simp)) (lead_chain hc0 h (fun q => ?_) (fun z hz => h0 z (List.mem_cons_of_mem _ hz)))
      rcases List.mem_cons.1 (ha q) with q' | q'
      · exact absurd q'.symm e
      · exact q'
theorem find_mem {s : Slb} {key : Int} : ∀ {l : List Int}, 0 ≤ findL s key l → findL s key l ∈ l ∧ kyN s (findL s key l) = key
  | [], h => by unfold findL at h; omega
  | y :: l, h => by
    unfold findL at h ⊢
    by_cases e : (slotN s y).key = key
    · rw [if_pos e]; exact ⟨by simp, e⟩
    · rw [if_neg e] at h ⊢
      obtain ⟨q1, q2⟩ := find_mem h
      exact ⟨List.mem_cons_of_mem _ q1, q2⟩
/-- a linked slot is come to from the head of its chain, and from no other chain's end -/
theorem lead_head {s : Slb} {key : Int} (hr : rightSl s = true) (hk : 0 ≤ key) (hf : 0 ≤ findSl s key) {c : Nat} (hc : c < s.heads.length) : Lead s (chN s key) (findSl s key) (s.heads.getD c 0) := by
  have R := rt_of hr
  obtain ⟨hcl, hce⟩ := chN_lt (s := s) hk (rt_sizes R.sz).2.2.1
  obtain ⟨l, q1, q2⟩ := R.ch c hc
  refine lead_chain (c := (c : Int)) (by omega) q1 (fun e => ?_) (fun y hy => (gd_in q2 y hy).1)
  have e' : c = chN s key := by omega
  subst e'
  have := find_at hce q1 q2
  rw [this] at hf ⊢
  exact (find_mem hf).1
theorem lead_end {s : Slb} {own a : Int} (ho : 0 ≤ own) (ha : 0 ≤ a) (h : Lead s own a (-1 - own)) : False := by
  generalize hx : -1 - own = x at h
  cases h with
  | here => omega
  | other h1 h2 => omega
  | step h1 _ => omega
theorem lead_next {s : Slb} {own a x : Int} (h : Lead s own a x) (h0 : 0 ≤ x) (hne : x ≠ a) : Lead s own a (nx s x) := by
  cases h with
  | here => exact absurd rfl hne
  | other h1 _ => omega
  | step _ h2 => exact h2
/-- a slot that is found has the key, is held, and lies there -/
theorem find_slot {s : Slb} {key : Int} (hr : rightSl s = true) (hk : 0 ≤ key) (hf : 0 ≤ findSl s key) : kyN s (findSl s key) = key ∧ (slotN s (findSl s key)).refs ≠ 0 ∧ findSl s key < s.slots.length := by
  have R := rt_of hr
  obtain ⟨hcl, hce⟩ := chN_lt (s := s) hk (rt_sizes R.sz).2.2.1
  obtain ⟨l, q1, q2⟩ := R.ch _ hcl
  have e := find_at hce q1 q2
  rw [e] at hf ⊢
  obtain ⟨m1, m2⟩ := find_mem hf
  exact ⟨m2, gd_refs q2 m1, (gd_in q2 _ m1).2⟩
theorem add_more {s : Slb} {key : Int} (h : addC s key = 0) :
    (∀ y : Int, 0 ≤ y → y ≠ (freeK s.slots : Int) → slotN (addIn s key) y = slotN s y) ∧ (slotN (addIn s key) (freeK s.slots : Int)).key = key ∧ (slotN (addIn s key) (freeK s.slots : Int)).refs = 1 ∧
    (∀ k', 0 ≤ k' → k' ≠ key → findSl (addIn s key) k' = findSl s k') ∧ findSl s key < 0 ∧ (addIn s key).slots.length = s.slots.length ∧ (addIn s key).heads.length = s.heads.length ∧
    (∀ (k' x : Int), 0 ≤ k' → 0 ≤ findSl s k' → Lead s (chN s k') (findSl s k') x → Lead (addIn s key) (chN s k') (findSl s k') x) := by
  unfold addC at h
  by_cases hok : addOk s key = true
  case neg => rw [if_neg hok] at h; cases h
  rw [if_pos hok] at h
  unfold addOk at hok
  simp only [Bool.and_eq_true] at hok
  obtain ⟨hr, hk⟩ := hok
  obtain ⟨k0, k1⟩ := key_iff.1 hk
  by_cases hf : 0 ≤ findSl s key
  case pos => rw [if_pos hf] at h; cases h
  rw [if_neg hf] at h
  by_cases hfull : addFull s = true
  case pos => rw [if_pos hfull] at h; cases h
  have R := rt_of hr
  obtain ⟨n1, n2, n3, n4⟩ := rt_sizes R.sz
  obtain ⟨hcl, hce⟩ := chN_lt (s := s) k0 n3
  have hle := free_le s.slots
  have hfu : ¬ (freeK s.slots = s.slots.length) ∧ ¬ 1000000 ≤ (s.slots.getD (freeK s.slots) zeroSlt).gen := by
    unfold addFull at hfull
    simp only [Bool.or_eq_true, decide_eq_true_eq, not_or] at hfull
    exact hfull
  obtain ⟨k, hkf⟩ : ∃ k, freeK s.slots = k := ⟨_, rfl⟩
  have hkl : k < s.slots.length := by omega
  have hfr := free_at s.slots (by omega)
  rw [hkf] at hfr hfu
  have hrf := refs_nat hr hkl
  have hr0 : (s.slots.getD k zeroSlt).refs = 0 := by omega
  have hgn := gen_nat hr hkl
  obtain ⟨c, hcn⟩ : ∃ c, chN s key = c := ⟨_, rfl⟩
  rw [hcn] at hcl hce
  have hhn := head_next R hcl
  have e : addIn s key = ⟨s.slots.set k ⟨key, (s.slots.getD k zeroSlt).gen + 1, 1, s.heads.getD c 0⟩, s.heads.set c (k : Int)⟩ := by
    unfold addIn
    rw [hkf]
    show (⟨_, _⟩ : Slb) = _
    rw [← hcn]
    rfl
  obtain ⟨v, hv⟩ : ∃ v : Slt, v = ⟨key, (s.slots.getD k zeroSlt).gen + 1, 1, s.heads.getD c 0⟩ := ⟨_, rfl⟩
  rw [e, hkf, ← hv]
  have hlen : (s.heads.set c (k : Int)).length = s.heads.length := by simp
  have hsn : ∀ y : Int, 0 ≤ y → slotN ⟨s.slots.set k v, s.heads.set c (k : Int)⟩ y = if y = (k : Int) then v else slotN s y := fun y hy => slotN_set hkl hy
  have hkn : ∀ (i : Nat) (l : List Int), Gd s i l → (k : Int) ∉ l := fun i l hg hm => gd_refs hg hm (by rw [slot_nat]; exact hr0)
  have hsame : ∀ (i : Nat) (l : List Int), Gd s i l → ∀ y ∈ l, slotN ⟨s.slots.set k v, s.heads.set c (k : Int)⟩ y = slotN s y := fun i l hg y hy => by
    rw [hsn y (gd_in hg y hy).1, if_neg (fun e2 : y = (k : Int) => hkn i l hg (by rw [← e2]; exact hy))]
  have hch : ∀ (i : Nat) (l : List Int) (x : Int), Gd s i l → IsChain s i x l → IsChain ⟨s.slots.set k v, s.heads.set c (k : Int)⟩ i x l ∧ Gd ⟨s.slots.set k v, s.heads.set c (k : Int)⟩ i l := fun i l x hg hc => by
    refine ⟨chain_congr (fun y hy => by rw [nx_slot, nx_slot, hsame i l hg y hy]) hc, gd_congr (s := s) (by simp) hlen (fun y hy => ⟨by unfold kyN; rw [hsame i l hg y hy], by rw [hsame i l hg y hy]; exact gd_refs hg hy⟩) hg⟩
  have hother : ∀ k', 0 ≤ k' → k' ≠ key → findSl ⟨s.slots.set k v, s.heads.set c (k : Int)⟩ k' = findSl s k' := by
    intro k' h0 hne
    obtain ⟨hcl', hce'⟩ := chN_lt (s := s) h0 n3
    obtain ⟨l', q1', q2'⟩ := R.ch _ hcl'
    obtain ⟨a1', a2'⟩ := hch _ l' _ q2' q1'
    rw [find_at hce' q1' q2']
    by_cases e2 : chN s k' = c
    · rw [e2] at hce' q1' q2' a1' a2'
      have hvk : slotN ⟨s.slots.set k v, s.heads.set c (k : Int)⟩ (k : Int) = v := by rw [hsn _ (by omega), if_pos rfl]
      have b1 : IsChain ⟨s.slots.set k v, s.heads.set c (k : Int)⟩ c ((s.heads.set c (k : Int)).getD c 0) ((k : Int) :: l') := by
        rw [heads_set hcl, if_pos rfl]
        refine ⟨rfl, ?_⟩
        have e5 : nx ⟨s.slots.set k v, s.heads.set c (k : Int)⟩ (k : Int) = s.heads.getD c 0 := by rw [nx_slot, hvk, hv]
        rw [e5]
        exact a1'
      have hnk : ∀ y ∈ l', kyN s y ≠ key := by
        refine find_not q2'.2 (fun y hy => (gd_in q2' y hy).1) ?_
        rw [← find_at hce q1' q2']
        omega
      have b2 : Gd ⟨s.slots.set k v, s.heads.set c (k : Int)⟩ c ((k : Int) :: l') := by
        refine ⟨fun y hy => ?_, List.nodup_cons.2 ⟨fun hm => ?_, a2'.2⟩⟩
        · rcases List.mem_cons.1 hy with e2 | e2
          · subst e2
            have w1 : v.refs = 1 := by rw [hv]
            have w2 : v.key = key := by rw [hv]
            unfold mayB inB
            rw [hvk, w1, w2]
            simp only [List.length_set, Bool.and_eq_true, decide_eq_true_eq, beq_iff_eq]
            exact ⟨⟨by omega, by omega⟩, rfl, hce.symm⟩
          · exact a2'.1 y e2
        · obtain ⟨y, hy, e2⟩ := List.mem_map.1 hm
          have e3 : kyN ⟨s.slots.set k v, s.heads.set c (k : Int)⟩ (k : Int) = key := by unfold kyN; rw [hvk, hv]
          rw [e3] at e2
          refine hnk y hy ?_
          unfold kyN at e2 ⊢
          rwa [hsame c l' q2' y hy] at e2
      rw [find_at (c := c) (s := ⟨s.slots.set k v, s.heads.set c (k : Int)⟩) (by rw [hlen]; exact hce') b1 b2]
      show (if (slotN _ (k : Int)).key = k' then (k : Int) else findL _ k' l') = _
      rw [hvk, if_neg (by rw [hv]; exact fun q => hne q.symm)]
      exact find_congr (fun y hy => by unfold kyN; rw [hsame c l' q2' y hy])
    · have hh : (s.heads.set c (k : Int)).getD (chN s k') 0 = s.heads.getD (chN s k') 0 := by rw [heads_set hcl, if_neg e2]
      rw [find_at (c := chN s k') (s := ⟨s.slots.set k v, s.heads.set c (k : Int)⟩) (by rw [hlen]; exact hce') (by show IsChain _ _ ((s.heads.set c (k : Int)).getD _ 0) _; rw [hh]; exact a1') a2']
      exact find_congr (fun y hy => by unfold kyN; rw [hsame _ l' q2' y hy])
  have hvk : slotN ⟨s.slots.set k v, s.heads.set c (k : Int)⟩ (k : Int) = v := by rw [hsn _ (by omega), if_pos rfl]
  refine ⟨fun y hy hne => by rw [hsn y hy, if_neg hne], by rw [hvk, hv], by rw [hvk, hv], hother, by omega, by simp, hlen, fun k' x h0 hf0 hl => ?_⟩
  obtain ⟨hcl', hce'⟩ := chN_lt (s := s) h0 n3
  obtain ⟨l, q1, q2⟩ := R.ch c hcl
  obtain ⟨a1, a2⟩ := hch c l _ q2 q1
  have hhead : Lead ⟨s.slots.set k v, s.heads.set c (k : Int)⟩ (chN s k') (findSl s k') (s.heads.getD c 0) := by
    refine lead_chain (c := (c : Int)) (by omega) a1 (fun e => ?_) (fun y hy => (gd_in q2 y hy).1)
    have e' : c = chN s k' := by omega
    subst e'
    have := find_at hce' q1 q2
    rw [this] at hf0 ⊢
    exact (find_mem hf0).1
  induction hl with
  | here => exact .here
  | other h1 h2 => exact .other h1 h2
  | @step x h1 _ ih =>
    refine .step h1 ?_
    by_cases e2 : x = (k : Int)
    · subst e2
      have e5 : nx ⟨s.slots.set k v, s.heads.set c (k : Int)⟩ (k : Int) = s.heads.getD c 0 := by rw [nx_slot, hvk, hv]
      rw [e5]; exact hhead
    · have e5 : nx ⟨s.slots.set k v, s.heads.set c (k : Int)⟩ x = nx s x := by rw [nx_slot, nx_slot, hsn x h1, if_neg e2]
      rw [e5]; exact ih
theorem chain_pred {s : Slb} {c y n : Int} {l2 : List Int} : ∀ {l0 : List Int} {x : Int}, IsChain s c x (l0 ++ y :: n :: l2) → nx s y = n
  | [], x, h => by obtain ⟨e, e2, _⟩ := h; rw [e]; exact e2.symm
  | z :: l0, x, h => by obtain ⟨_, h⟩ := h; exact chain_pred h
theorem cut_more {s : Slb} {key : Int} (h : cutC s key = 0) :
    (∀ z : Int, 0 ≤ z → kyN (cutIn s key) z = kyN s z ∧ (slotN (cutIn s key) z).gen = (slotN s z).gen ∧ (z ≠ findSl s key → (slotN (cutIn s key) z).refs = (slotN s z).refs)) ∧ (slotN (cutIn s key) (findSl s key)).refs = (slotN s (findSl s key)).refs - 1 ∧ 0 ≤ findSl s key ∧ findSl s key < s.slots.length ∧
    (∀ (own a x : Int), a ≠ findSl s key → Lead s own a x → Lead (cutIn s key) own a x) := by
  unfold cutC at h
  by_cases hok : (rightSl s && keyB key) = true
  case neg => rw [if_neg hok] at h; cases h
  rw [if_pos hok] at h
  simp only [Bool.and_eq_true] at hok
  obtain ⟨hr, hk⟩ := hok
  obtain ⟨k0, k1⟩ := key_iff.1 hk
  by_cases hf : findSl s key < 0
  case pos => rw [if_pos hf] at h; cases h
  have R := rt_of hr
  obtain ⟨n1, n2, n3, n4⟩ := rt_sizes R.sz
  obtain ⟨hcl, hce⟩ := chN_lt (s := s) k0 n3
  have hlk := (link_find hr k0).1
  have hlp : linkP s key = (lookL s key none (s.heads.getD (chN s key) 0) (chainOf s (chN s key)).1).1 := rfl
  obtain ⟨c, hcn⟩ : ∃ c, chN s key = c := ⟨_, rfl⟩
  rw [hcn] at hcl hce hlp
  obtain ⟨l, q1, q2⟩ := R.ch c hcl
  have hfe : findSl s key = findL s key l := find_at hce q1 q2
  rw [chain_is q1 q2] at hlp
  obtain ⟨l1, l2, e1, e2, e3⟩ := look_split (s := s) (key := key) (p := none) q1 (fun y hy => (gd_in q2 y hy).1) (by omega)
  rw [← hlp] at e2
  rw [← hfe] at e1 e3
  obtain ⟨n, hn⟩ : ∃ n, findSl s key = n := ⟨_, rfl⟩
  have hni : n ∈ l := by rw [e1, hn]; simp
  obtain ⟨nn0, nn1⟩ := gd_in q2 n hni
  have hcut : cutIn s key = refS (setLink s c (nx s n) (linkP s key)) n ((slotN s n).refs - 1) := by unfold cutIn; rw [hn, hcn]
  rw [hn] at e1 e3
  obtain ⟨p, hp⟩ : ∃ p, linkP s key = p := ⟨_, rfl⟩
  rw [hp] at hcut e2 hlk
  rw [hcut]
  have hll := setLink_len (s := s) (c := c) (v := nx s n) (p := p)
  obtain ⟨t, ht⟩ : ∃ t, refS (setLink s c (nx s n) p) n ((slotN s n).refs - 1) = t := ⟨_, rfl⟩
  have hts : t.slots.length = s.slots.length := by rw [← ht]; unfold refS; simp [hll.1]
  have hth : t.heads.length = s.heads.length := by rw [← ht]; unfold refS; simp [hll.2]
  -- what became of each slot
  have hS : ∀ z : Int, 0 ≤ z → slotN t z = if z = n then { slotN (setLink s c (nx s n) p) n with refs := (slotN s n).refs - 1 } else slotN (setLink s c (nx s n) p) z := fun z hz => by
    rw [← ht]
    exact slotN_refs nn0 (by rw [hll.1]; exact nn1) hz
  have hK : ∀ z : Int, 0 ≤ z → kyN t z = kyN s z := fun z hz => by
    unfold kyN
    rw [hS z hz]
    by_cases e : z = n
    · subst e
      rw [if_pos rfl]
      show (slotN (setLink s c (nx s z) p) z).key = _
      rw [slotN_link hz hlk]
      split <;> rfl
    · rw [if_neg e, slotN_link hz hlk]
      split <;> rfl
  have hF : ∀ z : Int, 0 ≤ z → z ≠ n → (slotN t z).refs = (slotN s z).refs := fun z hz e => by
    rw [hS z hz, if_neg e, slotN_link hz hlk]
    split <;> rfl
  have hN : ∀ z : Int, 0 ≤ z → nx t z = if some z = p then nx s n else nx s z := fun z hz => by
    rw [nx_slot, hS z hz]
    by_cases e : z = n
    · subst e
      rw [if_pos rfl]
      show (slotN (setLink s c (nx s z) p) z).next = _
      rw [slotN_link hz hlk]
      split <;> rfl
    · rw [if_neg e, slotN_link hz hlk]
      split <;> rfl
  -- the ahead of it lies in the chain
  have hnd := gd_nodup q2
  have hpl : ∀ y, p = some y → y ∈ l1 := by
    intro y hy
    rcases List.eq_nil_or_concat l1 with e | ⟨l0, y', e⟩
    · rw [e] at e2; rw [hy] at e2; cases e2
    · rw [List.concat_eq_append] at e
      rw [e, lastOr_snoc] at e2
      rw [hy] at e2
      injection e2 with e2
      rw [e, e2]; simp
  have hG : ∀ z : Int, 0 ≤ z → (slotN t z).gen = (slotN s z).gen := fun z hz => by
    rw [hS z hz]
    by_cases e : z = n
    · subst e
      rw [if_pos rfl]
      show (slotN (setLink s c (nx s z) p) z).gen = _
      rw [slotN_link hz hlk]
      split <;> rfl
    · rw [if_neg e, slotN_link hz hlk]
      split <;> rfl
  have hpn : ∀ y, p = some y → nx s y = n := by
    intro y hy
    rcases List.eq_nil_or_concat l1 with e | ⟨l0, y', e⟩
    · rw [e] at e2; rw [hy] at e2; cases e2
    · rw [List.concat_eq_append] at e
      rw [e, lastOr_snoc] at e2
      rw [hy] at e2
      injection e2 with e2
      rw [e1, e, ← e2] at q1
      simp only [List.append_assoc, List.cons_append, List.nil_append] at q1
      exact chain_pred q1
  rw [ht, hn]
  refine ⟨fun z hz => ⟨hK z hz, hG z hz, fun e => hF z hz e⟩, by rw [hS n nn0, if_pos rfl], nn0, nn1, fun own a x ha hl => ?_⟩
  have key2 : Lead t own a x ∧ (x = n → Lead t own a (nx s n)) := by
    induction hl with
    | here => exact ⟨.here, fun e => absurd e ha⟩
    | other h1 h2 => exact ⟨.other h1 h2, fun e => by omega⟩
    | @step x h1 _ ih =>
      refine ⟨.step h1 ?_, fun e => by subst e; exact ih.1⟩
      rw [hN x h1]
      by_cases e : some x = p
      · rw [if_pos e]
        have := hpn x e.symm
        exact ih.2 this
      · rw [if_neg e]; exact ih.1
  exact key2.1
end Go.Proofs.Ytfjgofmjhccdkaa
