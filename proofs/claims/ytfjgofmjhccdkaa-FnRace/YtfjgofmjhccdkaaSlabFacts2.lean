/- Proved here: nothing of a program: a right slab stays right when a key is added or cut; what is added is found, and is the first of its chain; what is cut is not, and all others are. -/
import Derived.Test.YtfjgofmjhccdkaaAll17
namespace Go.Proofs.Ytfjgofmjhccdkaa
open Go.ChangeShapes Go.WideShapes Go.ChangeAt Go.RowKit
set_option linter.unusedVariables false
set_option linter.unusedSimpArgs false
set_option maxRecDepth 100000

theorem free_le : ∀ ss : List Slt, freeK ss ≤ ss.length
  | [] => by simp [freeK]
  | x :: ss => by
    have := free_le ss
    unfold freeK
    split <;> simp <;> omega
theorem nx_slot (s : Slb) (y : Int) : nx s y = (slotN s y).next := rfl
theorem key_iff {key : Int} : keyB key = true ↔ 0 ≤ key ∧ key ≤ 999 := by unfold keyB; simp
/-- no key of a chain, where it is not found -/
theorem find_not {s : Slb} {key : Int} {l : List Int} (hn : (l.map (kyN s)).Nodup) (h0 : ∀ y ∈ l, 0 ≤ y) (h : findL s key l < 0) : ∀ y ∈ l, kyN s y ≠ key := fun y hy e => by
  have := find_in hn y hy e
  have := h0 y hy
  omega
theorem heads_set {hs : List Int} {c i : Nat} {v : Int} (hc : c < hs.length) : (hs.set c v).getD i 0 = if i = c then v else hs.getD i 0 := getD_set hs c i v hc
theorem add_facts {s : Slb} {key : Int} (h : addC s key = 0) : rightSl (addIn s key) = true ∧ findSl (addIn s key) key = (freeK s.slots : Int) ∧ (∃ l, (chainOf (addIn s key) (chN s key)).1 = (freeK s.slots : Int) :: l) ∧ (s.slots.getD (freeK s.slots) zeroSlt).refs = 0 ∧ freeK s.slots < s.slots.length ∧ rightSl s = true ∧ keyB key = true := by
  unfold addC at h
  by_cases hok : addOk s key = true
  case neg => rw [if_neg hok] at h; cases h
  rw [if_pos hok] at h
  unfold addOk at hok
  simp only [Bool.and_eq_true] at hok
  obtain ⟨hr, hk⟩ := hok
  obtain ⟨k0, k1⟩ := key_iff.1 hk
  by_cases hf : 0 ≤ findSl s key
  case pos => rw [if_pos hf] at h; cases h
  rw [if_neg hf] at h
  by_cases hfull : addFull s = true
  case pos => rw [if_pos hfull] at h; cases h
  have R := rt_of hr
  obtain ⟨n1, n2, n3, n4⟩ := rt_sizes R.sz
  obtain ⟨hcl, hce⟩ := chN_lt (s := s) k0 n3
  have hle := free_le s.slots
  have hfu : ¬ (freeK s.slots = s.slots.length) ∧ ¬ 1000000 ≤ (s.slots.getD (freeK s.slots) zeroSlt).gen := by
    unfold addFull at hfull
    simp only [Bool.or_eq_true, decide_eq_true_eq, not_or] at hfull
    exact hfull
  obtain ⟨k, hkf⟩ : ∃ k, freeK s.slots = k := ⟨_, rfl⟩
  have hkl : k < s.slots.length := by omega
  have hfr := free_at s.slots (by omega)
  rw [hkf] at hfr hfu
  have hrf := refs_nat hr hkl
  have hr0 : (s.slots.getD k zeroSlt).refs = 0 := by omega
  have hgn := gen_nat hr hkl
  obtain ⟨c, hcn⟩ : ∃ c, chN s key = c := ⟨_, rfl⟩
  rw [hcn] at hcl hce
  have hhn := head_next R hcl
  have e : addIn s key = ⟨s.slots.set k ⟨key, (s.slots.getD k zeroSlt).gen + 1, 1, s.heads.getD c 0⟩, s.heads.set c (k : Int)⟩ := by
    unfold addIn
    rw [hkf]
    show (⟨_, _⟩ : Slb) = _
    rw [← hcn]
    rfl
  obtain ⟨v, hv⟩ : ∃ v : Slt, v = ⟨key, (s.slots.getD k zeroSlt).gen + 1, 1, s.heads.getD c 0⟩ := ⟨_, rfl⟩
  rw [e, hkf, hcn, ← hv]
  have hlen : (s.heads.set c (k : Int)).length = s.heads.length := by simp
  have hsn : ∀ y : Int, 0 ≤ y → slotN ⟨s.slots.set k v, s.heads.set c (k : Int)⟩ y = if y = (k : Int) then v else slotN s y := fun y hy => slotN_set hkl hy
  have hkn : ∀ (i : Nat) (l : List Int), Gd s i l → (k : Int) ∉ l := fun i l hg hm => gd_refs hg hm (by rw [slot_nat]; exact hr0)
  have hsame : ∀ (i : Nat) (l : List Int), Gd s i l → ∀ y ∈ l, slotN ⟨s.slots.set k v, s.heads.set c (k : Int)⟩ y = slotN s y := fun i l hg y hy => by
    rw [hsn y (gd_in hg y hy).1, if_neg (fun e2 : y = (k : Int) => hkn i l hg (by rw [← e2]; exact hy))]
  have hch : ∀ (i : Nat) (l : List Int) (x : Int), Gd s i l → IsChain s i x l → IsChain ⟨s.slots.set k v, s.heads.set c (k : Int)⟩ i x l ∧ Gd ⟨s.slots.set k v, s.heads.set c (k : Int)⟩ i l := fun i l x hg hc => by
    refine ⟨chain_congr (fun y hy => by rw [nx_slot, nx_slot, hsame i l hg y hy]) hc, gd_congr (s := s) (by simp) hlen (fun y hy => ⟨by unfold kyN; rw [hsame i l hg y hy], by rw [hsame i l hg y hy]; exact gd_refs hg hy⟩) hg⟩
  obtain ⟨l, q1, q2⟩ := R.ch c hcl
  obtain ⟨a1, a2⟩ := hch c l _ q2 q1
  have hnk : ∀ y ∈ l, kyN s y ≠ key := by
    refine find_not q2.2 (fun y hy => (gd_in q2 y hy).1) ?_
    rw [← find_at hce q1 q2]
    omega
  have hvk : slotN ⟨s.slots.set k v, s.heads.set c (k : Int)⟩ (k : Int) = v := by rw [hsn _ (by omega), if_pos rfl]
  have b1 : IsChain ⟨s.slots.set k v, s.heads.set c (k : Int)⟩ c ((s.heads.set c (k : Int)).getD c 0) ((k : Int) :: l) := by
    rw [heads_set hcl, if_pos rfl]
    refine ⟨rfl, ?_⟩
    have e5 : nx ⟨s.slots.set k v, s.heads.set c (k : Int)⟩ (k : Int) = s.heads.getD c 0 := by rw [nx_slot, hvk, hv]
    rw [e5]
    exact a1
  have b2 : Gd ⟨s.slots.set k v, s.heads.set c (k : Int)⟩ c ((k : Int) :: l) := by
    refine ⟨fun y hy => ?_, List.nodup_cons.2 ⟨fun hm => ?_, a2.2⟩⟩
    · rcases List.mem_cons.1 hy with e2 | e2
      · subst e2
        have w1 : v.refs = 1 := by rw [hv]
        have w2 : v.key = key := by rw [hv]
        unfold mayB inB
        rw [hvk, w1, w2]
        simp only [List.length_set, Bool.and_eq_true, decide_eq_true_eq, beq_iff_eq]
        exact ⟨⟨by omega, by omega⟩, rfl, hce.symm⟩
      · exact a2.1 y e2
    · obtain ⟨y, hy, e2⟩ := List.mem_map.1 hm
      have e3 : kyN ⟨s.slots.set k v, s.heads.set c (k : Int)⟩ (k : Int) = key := by unfold kyN; rw [hvk, hv]
      rw [e3] at e2
      refine hnk y hy ?_
      unfold kyN at e2 ⊢
      rwa [hsame c l q2 y hy] at e2
  have R' : Rt ⟨s.slots.set k v, s.heads.set c (k : Int)⟩ := by
    refine ⟨?_, slotsA_set hlen R.sl ?_, fun i hi => ?_⟩
    · have := R.sz
      unfold sizesB at this ⊢
      simpa using this
    · rw [hv]
      have w1 : timeB ((s.slots.getD k zeroSlt).gen + 1) = true := (time_iff _).2 (by omega)
      have w2 : timeB 1 = true := (time_iff _).2 (by omega)
      unfold okS
      simp only [hk, hhn, w1, w2, Bool.and_true]
    · have hi' : i < s.heads.length := by simpa using hi
      by_cases e2 : i = c
      · subst e2; exact ⟨_, b1, b2⟩
      · obtain ⟨l', q1', q2'⟩ := R.ch i hi'
        obtain ⟨a1', a2'⟩ := hch i l' _ q2' q1'
        refine ⟨l', ?_, a2'⟩
        show IsChain _ _ ((s.heads.set c (k : Int)).getD i 0) _
        rw [heads_set hcl, if_neg e2]
        exact a1'
  refine ⟨of_rt R', ?_, ⟨l, chain_is b1 b2⟩, hr0, hkl, hr, hk⟩
  rw [find_at (c := c) (s := ⟨s.slots.set k v, s.heads.set c (k : Int)⟩) (by rw [hlen]; exact hce) b1 b2]
  unfold findL
  rw [hvk, hv, if_pos rfl]
/-- the last of some slots, or what was ahead of them -/
def lastOr : Option Int → List Int → Option Int
  | p, [] => p
  | p, y :: l => lastOr (some y) l
theorem lastOr_snoc : ∀ (l : List Int) (p : Option Int) (y : Int), lastOr p (l ++ [y]) = some y
  | [], p, y => rfl
  | z :: l, p, y => lastOr_snoc l (some z) y
/-- where a key is found its chain falls into what is ahead, it, and what is behind -/
theorem look_split {s : Slb} {key : Int} {c : Int} : ∀ {l : List Int} {p : Option Int} {x : Int}, IsChain s c x l → (∀ y ∈ l, 0 ≤ y) → 0 ≤ findL s key l → ∃ l1 l2, l = l1 ++ findL s key l :: l2 ∧ (lookL s key p x l).1 = lastOr p l1 ∧ kyN s (findL s key l) = key
  | [], p, x, _, _, h => by unfold findL at h; omega
  | y :: l, p, x, hc, h0, h => by
    obtain ⟨e, hc⟩ := hc
    unfold findL lookL at *
    by_cases hk : (slotN s y).key = key
    · rw [if_pos hk, if_pos (by simpa using hk)]
      exact ⟨[], l, rfl, rfl, hk⟩
    · rw [if_neg hk] at h ⊢
      rw [if_neg (by simpa using hk)]
      obtain ⟨l1, l2, q1, q2, q3⟩ := look_split (p := some y) (x := nx s y) (by rw [← e] at hc; exact hc) (fun z hz => h0 z (List.mem_cons_of_mem _ hz)) h
      exact ⟨y :: l1, l2, by rw [List.cons_append, ← q1], q2, q3⟩
theorem chain_skip {s s' : Slb} {c y n : Int} {l2 : List Int} (hy : nx s' y = nx s n) (h2 : ∀ z ∈ l2, nx s' z = nx s z) : ∀ {l0 : List Int} {x : Int}, (∀ z ∈ l0, nx s' z = nx s z) → IsChain s c x (l0 ++ y :: n :: l2) → IsChain s' c x (l0 ++ y :: l2)
  | [], x, _, h => by
    obtain ⟨e, e2, h⟩ := h
    refine ⟨e, ?_⟩
    rw [← e, hy, e2, ← e] at *
    exact chain_congr h2 h
  | z :: l0, x, h0, h => by
    obtain ⟨e, h⟩ := h
    refine ⟨e, ?_⟩
    rw [← e, h0 z (by simp)]
    rw [← e] at h
    exact chain_skip hy h2 (fun w hw => h0 w (List.mem_cons_of_mem _ hw)) h
theorem slotN_link {s : Slb} {c : Nat} {v z : Int} (hz : 0 ≤ z) : ∀ {p : Option Int}, LinkOk s p → slotN (setLink s c v p) z = if some z = p then { slotN s z with next := v } else slotN s z
  | none, _ => by rw [if_neg (by simp)]; rfl
  | some y, hp => by
    have hy0 := hp.1
    have hy1 := hp.2
    have h := slotN_set (s := s) (k := y.toNat) (v := { slotN s y with next := v }) (hs := s.heads) (by omega) hz
    unfold setLink
    rw [h]
    by_cases e : z = y
    · subst e
      rw [if_pos (by omega), if_pos rfl]
    · rw [if_neg (by omega), if_neg (by simpa using e)]
theorem slotN_refs {t : Slb} {n z r : Int} (hn : 0 ≤ n) (hl : n < t.slots.length) (hz : 0 ≤ z) : slotN (refS t n r) z = if z = n then { slotN t n with refs := r } else slotN t z := by
  have h := slotN_set (s := t) (k := n.toNat) (v := { slotN t n with refs := r }) (hs := t.heads) (by omega) hz
  unfold refS
  rw [h]
  by_cases e : z = n
  · rw [if_pos (by omega), if_pos e]
  · rw [if_neg (by omega), if_neg e]
theorem find_skip {s : Slb} {key n : Int} (hn : kyN s n ≠ key) : ∀ {l1 l2 : List Int}, findL s key (l1 ++ n :: l2) = findL s key (l1 ++ l2)
  | [], l2 => by
    have : (slotN s n).key ≠ key := hn
    show (if (slotN s n).key = key then n else findL s key l2) = findL s key l2
    rw [if_neg this]
  | y :: l1, l2 => by
    show (if (slotN s y).key = key then y else findL s key (l1 ++ n :: l2)) = (if (slotN s y).key = key then y else findL s key (l1 ++ l2))
    rw [find_skip hn]
theorem slotsA_link {s : Slb} {c : Nat} {v : Int} (h : slotsA s = true) (hv : nextB s.slots.length s.heads.length v = true) : ∀ {p : Option Int}, LinkOk s p → slotsA (setLink s c v p) = true
  | none, _ => by
    unfold slotsA at h ⊢
    unfold setLink
    simpa using h
  | some y, hp => by
    have hy : y.toNat < s.slots.length := by have := hp.1; have := hp.2; omega
    have hok := ok_get h hy
    unfold setLink
    refine slotsA_set rfl h ?_
    have e : slotN s y = s.slots.getD y.toNat zeroSlt := rfl
    unfold okS
    simp only [e, hok.1, hok.2.1, hok.2.2.1, hv, Bool.and_true]
theorem cut_facts {s : Slb} {key : Int} (h : cutC s key = 0) : rightSl (cutIn s key) = true ∧ findSl (cutIn s key) key = -1 ∧ (∀ k, 0 ≤ k → k ≠ key → findSl (cutIn s key) k = findSl s k) ∧ rightSl s = true ∧ keyB key = true := by
  unfold cutC at h
  by_cases hok : (rightSl s && keyB key) = true
  case neg => rw [if_neg hok] at h; cases h
  rw [if_pos hok] at h
  simp only [Bool.and_eq_true] at hok
  obtain ⟨hr, hk⟩ := hok
  obtain ⟨k0, k1⟩ := key_iff.1 hk
  by_cases hf : findSl s key < 0
  case pos => rw [if_pos hf] at h; cases h
  have R := rt_of hr
  obtain ⟨n1, n2, n3, n4⟩ := rt_sizes R.sz
  obtain ⟨hcl, hce⟩ := chN_lt (s := s) k0 n3
  have hlk := (link_find hr k0).1
  have hlp : linkP s key = (lookL s key none (s.heads.getD (chN s key) 0) (chainOf s (chN s key)).1).1 := rfl
  obtain ⟨c, hcn⟩ : ∃ c, chN s key = c := ⟨_, rfl⟩
  rw [hcn] at hcl hce hlp
  obtain ⟨l, q1, q2⟩ := R.ch c hcl
  have hfe : findSl s key = findL s key l := find_at hce q1 q2
  rw [chain_is q1 q2] at hlp
  obtain ⟨l1, l2, e1, e2, e3⟩ := look_split (s := s) (key := key) (p := none) q1 (fun y hy => (gd_in q2 y hy).1) (by omega)
  rw [← hlp] at e2
  rw [← hfe] at e1 e3
  obtain ⟨n, hn⟩ : ∃ n, findSl s key = n := ⟨_, rfl⟩
  have hni : n ∈ l := by rw [e1, hn]; simp
  obtain ⟨nn0, nn1⟩ := gd_in q2 n hni
  have hcut : cutIn s key = refS (setLink s c (nx s n) (linkP s key)) n ((slotN s n).refs - 1) := by unfold cutIn; rw [hn, hcn]
  rw [hn] at e1 e3
  obtain ⟨p, hp⟩ : ∃ p, linkP s key = p := ⟨_, rfl⟩
  rw [hp] at hcut e2 hlk
  rw [hcut]
  have hll := setLink_len (s := s) (c := c) (v := nx s n) (p := p)
  obtain ⟨t, ht⟩ : ∃ t, refS (setLink s c (nx s n) p) n ((slotN s n).refs - 1) = t := ⟨_, rfl⟩
  have hts : t.slots.length = s.slots.length := by rw [← ht]; unfold refS; simp [hll.1]
  have hth : t.heads.length = s.heads.length := by rw [← ht]; unfold refS; simp [hll.2]
  -- what became of each slot
  have hS : ∀ z : Int, 0 ≤ z → slotN t z = if z = n then { slotN (setLink s c (nx s n) p) n with refs := (slotN s n).refs - 1 } else slotN (setLink s c (nx s n) p) z := fun z hz => by
    rw [← ht]
    exact slotN_refs nn0 (by rw [hll.1]; exact nn1) hz
  have hK : ∀ z : Int, 0 ≤ z → kyN t z = kyN s z := fun z hz => by
    unfold kyN
    rw [hS z hz]
    by_cases e : z = n
    · subst e
      rw [if_pos rfl]
      show (slotN (setLink s c (nx s z) p) z).key = _
      rw [slotN_link hz hlk]
      split <;> rfl
    · rw [if_neg e, slotN_link hz hlk]
      split <;> rfl
  have hF : ∀ z : Int, 0 ≤ z → z ≠ n → (slotN t z).refs = (slotN s z).refs := fun z hz e => by
    rw [hS z hz, if_neg e, slotN_link hz hlk]
    split <;> rfl
  have hN : ∀ z : Int, 0 ≤ z → nx t z = if some z = p then nx s n else nx s z := fun z hz => by
    rw [nx_slot, hS z hz]
    by_cases e : z = n
    · subst e
      rw [if_pos rfl]
      show (slotN (setLink s c (nx s z) p) z).next = _
      rw [slotN_link hz hlk]
      split <;> rfl
    · rw [if_neg e, slotN_link hz hlk]
      split <;> rfl
  -- the ahead of it lies in the chain
  have hnd := gd_nodup q2
  have hpl : ∀ y, p = some y → y ∈ l1 := by
    intro y hy
    rcases List.eq_nil_or_concat l1 with e | ⟨l0, y', e⟩
    · rw [e] at e2; rw [hy] at e2; cases e2
    · rw [List.concat_eq_append] at e
      rw [e, lastOr_snoc] at e2
      rw [hy] at e2
      injection e2 with e2
      rw [e, e2]; simp
  have hl2 : ∀ y ∈ l2, y ∈ l := fun y hy => by rw [e1]; simp [hy]
  have hl1 : ∀ y ∈ l1, y ∈ l := fun y hy => by rw [e1]; simp [hy]
  rw [e1] at hnd
  have hd := List.nodup_append.1 hnd
  have hn2 := List.nodup_cons.1 hd.2.1
  have hnl : ∀ y ∈ l1 ++ l2, y ≠ n := by
    intro y hy e
    rcases List.mem_append.1 hy with q | q
    · exact hd.2.2 y q n (by simp) e
    · subst e; exact hn2.1 q
  have hp2 : ∀ y ∈ l2, some y ≠ p := fun y hy e => hd.2.2 y (hpl y e.symm) y (by simp [hy]) rfl
  -- its chain
  have b1 : IsChain t c (t.heads.getD c 0) (l1 ++ l2) := by
    rcases List.eq_nil_or_concat l1 with e | ⟨l0, y, e⟩
    · rw [e] at e2
      have e2 : p = none := e2
      have hh : t.heads.getD c 0 = nx s n := by
        rw [← ht, e2]
        show (s.heads.set c (nx s n)).getD c 0 = _
        rw [heads_set hcl, if_pos rfl]
      rw [hh, e, List.nil_append]
      rw [e1, e] at q1
      obtain ⟨e4, q1⟩ := q1
      rw [← e4] at q1
      exact chain_congr (fun z hz => by rw [hN z (gd_in q2 z (hl2 z hz)).1, e2, if_neg (by simp)]) q1
    · rw [List.concat_eq_append] at e
      rw [e, lastOr_snoc] at e2
      have hh : t.heads.getD c 0 = s.heads.getD c 0 := by rw [← ht, e2]; rfl
      rw [hh, e]
      rw [e1, e] at q1
      have hy : y ∈ l := hl1 y (by rw [e]; simp)
      have hy0 := (gd_in q2 y hy).1
      rw [e] at hd
      have hd0 := List.nodup_append.1 hd.1
      simp only [List.append_assoc, List.cons_append, List.nil_append] at q1 ⊢
      refine chain_skip (n := n) ?_ (fun z hz => ?_) (fun z hz => ?_) q1
      · rw [hN y hy0, e2, if_pos rfl]
      · rw [hN z (gd_in q2 z (hl2 z hz)).1, if_neg (hp2 z hz)]
      · have hz0 : z ∈ l := hl1 z (by rw [e]; simp [hz])
        rw [hN z (gd_in q2 z hz0).1, e2, if_neg (fun e5 => by injection e5 with e5; exact hd0.2.2 z hz y (by simp) e5)]
  have hin : ∀ y ∈ l1 ++ l2, y ∈ l := fun y hy => by
    rcases List.mem_append.1 hy with q | q
    · exact hl1 y q
    · exact hl2 y q
  have b0 : Gd s c (l1 ++ l2) := by
    refine ⟨fun y hy => q2.1 y (hin y hy), ?_⟩
    have := q2.2
    rw [e1] at this
    refine List.Sublist.nodup (List.Sublist.map _ ?_) this
    exact List.Sublist.append (List.Sublist.refl _) (List.sublist_cons_self n l2)
  have b2 : Gd t c (l1 ++ l2) := gd_congr hts hth (fun y hy => ⟨hK y (gd_in b0 y hy).1, by rw [hF y (gd_in b0 y hy).1 (hnl y hy)]; exact gd_refs b0 hy⟩) b0
  -- the other chains
  have hoc : ∀ (i : Nat) (l' : List Int), i ≠ c → Gd s i l' → ∀ y ∈ l', y ∉ l := fun i l' hi hg y hy hm => by
    have h1 := gd_mod hg hy
    have h2 := gd_mod q2 hm
    omega
  have hoth : ∀ (i : Nat) (l' : List Int), i < s.heads.length → i ≠ c → IsChain s i (s.heads.getD i 0) l' → Gd s i l' → IsChain t i (t.heads.getD i 0) l' ∧ Gd t i l' := fun i l' hil hi hc hg => by
    have hh : t.heads.getD i 0 = s.heads.getD i 0 := by
      rw [← ht]
      show (setLink s c (nx s n) p).heads.getD i 0 = _
      cases p with
      | none =>
        show (s.heads.set c (nx s n)).getD i 0 = _
        rw [heads_set hcl, if_neg hi]
      | some y => rfl
    rw [hh]
    refine ⟨chain_congr (fun y hy => ?_) hc, gd_congr hts hth (fun y hy => ⟨hK y (gd_in hg y hy).1, ?_⟩) hg⟩
    · rw [hN y (gd_in hg y hy).1, if_neg (fun e => hoc i l' hi hg y hy (hl1 y (hpl y e.symm)))]
    · rw [hF y (gd_in hg y hy).1 (fun e => hoc i l' hi hg y hy (e ▸ hni))]
      exact gd_refs hg hy
  have hokn := ok_get R.sl (k := n.toNat) (by omega)
  have hsn : slotN s n = s.slots.getD n.toNat zeroSlt := rfl
  have hrn := gd_refs q2 hni
  have R' : Rt t := by
    refine ⟨?_, ?_, fun i hi => ?_⟩
    · have := R.sz
      unfold sizesB at this ⊢
      rw [hts, hth]
      exact this
    · have hA := slotsA_link (c := c) R.sl (v := nx s n) hokn.2.2.2 hlk
      rw [← ht]
      unfold refS
      refine slotsA_set rfl hA ?_
      have hnt := ok_get hA (k := n.toNat) (by rw [hll.1]; omega)
      have e : slotN (setLink s c (nx s n) p) n = (setLink s c (nx s n) p).slots.getD n.toNat zeroSlt := rfl
      unfold okS
      have ht2 := (time_iff _).1 hokn.2.2.1
      have hr2 : timeB ((slotN s n).refs - 1) = true := (time_iff _).2 (by rw [hsn] at hrn ⊢; omega)
      simp only [e, hnt.1, hnt.2.1, hnt.2.2.2, hr2, Bool.and_true]
    · rw [hth] at hi
      by_cases e : i = c
      · subst e; exact ⟨_, b1, b2⟩
      · obtain ⟨l', a1, a2⟩ := R.ch i hi
        exact ⟨l', hoth i l' hi e a1 a2⟩
  rw [ht]
  refine ⟨of_rt R', ?_, fun k hk0 hkk => ?_, hr, hk⟩
  · rw [find_at (c := c) (by rw [hth]; exact hce) b1 b2]
    refine find_none (fun y hy => ?_)
    rw [hK y (gd_in b0 y hy).1]
    intro e
    have hq := find_in q2.2 y (hin y hy) e
    rw [← hfe, hn] at hq
    exact hnl y hy hq.symm
  · obtain ⟨hkl, hke⟩ := chN_lt (s := s) hk0 n3
    obtain ⟨i, hi⟩ : ∃ i, chN s k = i := ⟨_, rfl⟩
    rw [hi] at hkl hke
    by_cases e : i = c
    · subst e
      rw [find_at (c := i) (by rw [hth]; exact hke) b1 b2, find_at (c := i) hke q1 q2, find_congr (s := s) (fun y hy => hK y (gd_in b0 y hy).1)]
      conv => rhs; rw [e1]
      exact (find_skip (fun e5 => hkk (by rw [← e5, e3]))).symm
    · obtain ⟨l', a1, a2⟩ := R.ch i hkl
      obtain ⟨c1, c2⟩ := hoth i l' hkl e a1 a2
      rw [find_at (c := i) (by rw [hth]; exact hke) c1 c2, find_at (c := i) hke a1 a2]
      exact find_congr (fun y hy => hK y (gd_in a2 y hy).1)
end Go.Proofs.Ytfjgofmjhccdkaa
