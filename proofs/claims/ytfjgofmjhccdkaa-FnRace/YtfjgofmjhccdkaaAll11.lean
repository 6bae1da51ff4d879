/- Proved here: nothing of a program: a right slab stays right when its slots are got and put. · Proved here: nothing of a program: what a walker is, when it is right, what a step of it does; a right walker stays right, its slab too. -/
import Derived.Test.YtfjgofmjhccdkaaAll10
section
namespace Go.Proofs.Ytfjgofmjhccdkaa
open Go.ChangeShapes Go.WideShapes Go.ChangeAt Go.RowKit
set_option linter.unusedVariables false
set_option linter.unusedSimpArgs false
set_option maxRecDepth 100000

def kyN (s : Slb) (y : Int) : Int := (slotN s y).key
/-- each may lie there, no key twice -/
def Gd (s : Slb) (c : Int) (l : List Int) : Prop := (∀ y ∈ l, mayB s y c = true) ∧ (l.map (kyN s)).Nodup
/-- right, told chain by chain -/
structure Rt (s : Slb) : Prop where
  sz : sizesB s = true
  sl : slotsA s = true
  ch : ∀ c : Nat, c < s.heads.length → ∃ l, IsChain s c (s.heads.getD c 0) l ∧ Gd s c l
theorem good_gd {s : Slb} {c : Int} : ∀ {seen l : List Int}, goodK s c seen l → Gd s c l
  | seen, [], _ => ⟨fun y hy => by simp at hy, List.nodup_nil⟩
  | seen, z :: l, h => by
    obtain ⟨h1, h2⟩ := good_gd h.2
    refine ⟨fun y hy => ?_, List.nodup_cons.2 ⟨fun hm => ?_, h2⟩⟩
    · rcases List.mem_cons.1 hy with e | e
      · subst e; exact h.1.1
      · exact h1 y e
    · obtain ⟨y, hy, e⟩ := List.mem_map.1 hm
      exact good_seen h.2 _ List.mem_cons_self y hy e
theorem gd_good {s : Slb} {c : Int} : ∀ {l seen : List Int}, Gd s c l → (∀ k ∈ seen, ∀ y ∈ l, kyN s y ≠ k) → goodK s c seen l
  | [], seen, _, _ => trivial
  | z :: l, seen, h, hs => by
    obtain ⟨hn1, hn2⟩ := List.nodup_cons.1 h.2
    refine ⟨⟨h.1 z (by simp), fun hm => hs _ hm z (by simp) rfl⟩, gd_good ⟨fun y hy => h.1 y (List.mem_cons_of_mem _ hy), hn2⟩ ?_⟩
    intro k hk y hy
    rcases List.mem_cons.1 hk with e | e
    · intro e2
      exact hn1 (List.mem_map.2 ⟨y, hy, e2.trans e⟩)
    · exact hs k e y (List.mem_cons_of_mem _ hy)
theorem gd_in {s : Slb} {c : Int} {l : List Int} (h : Gd s c l) : ∀ y ∈ l, 0 ≤ y ∧ y < s.slots.length := fun y hy => may_in (h.1 y hy)
theorem gd_mod {s : Slb} {c : Int} {l : List Int} (h : Gd s c l) {y : Int} (hy : y ∈ l) : (kyN s y).tmod s.heads.length = c := by
  have := h.1 y hy
  unfold mayB at this
  simp only [Bool.and_eq_true, beq_iff_eq] at this
  exact this.2.2
theorem gd_refs {s : Slb} {c : Int} {l : List Int} (h : Gd s c l) {y : Int} (hy : y ∈ l) : (slotN s y).refs ≠ 0 := by
  have := h.1 y hy
  unfold mayB at this
  simp only [Bool.and_eq_true, Bool.not_eq_true', decide_eq_false_iff_not] at this
  exact this.2.1
theorem nodup_map {f : Int → Int} : ∀ {l : List Int}, (l.map f).Nodup → l.Nodup
  | [], _ => List.nodup_nil
  | x :: l, h => by
    obtain ⟨h1, h2⟩ := List.nodup_cons.1 h
    exact List.nodup_cons.2 ⟨fun hm => h1 (List.mem_map.2 ⟨x, hm, rfl⟩), nodup_map h2⟩
theorem gd_nodup {s : Slb} {c : Int} {l : List Int} (h : Gd s c l) : l.Nodup := nodup_map h.2
theorem gd_len {s : Slb} {c : Int} {l : List Int} (h : Gd s c l) : l.length ≤ s.slots.length := pigeon _ _ (gd_nodup h) (gd_in h)
theorem rt_sizes {s : Slb} (h : sizesB s = true) : 1 ≤ s.slots.length ∧ s.slots.length ≤ 24 ∧ 1 ≤ s.heads.length ∧ s.heads.length ≤ 4 := by
  unfold sizesB at h
  simp only [Bool.and_eq_true, decide_eq_true_eq] at h
  omega
theorem rt_of {s : Slb} (h : rightSl s = true) : Rt s := by
  rw [right_keys] at h
  simp only [Bool.and_eq_true] at h
  obtain ⟨h1, h2, h3⟩ := h
  refine ⟨h1, h2, ?_⟩
  have hk : ∀ (r c : Nat) (ks : List Int), c + r = s.heads.length → chainsK s r c ks = true → ∀ i : Nat, c ≤ i → i < s.heads.length → ∃ l, IsChain s i (s.heads.getD i 0) l ∧ Gd s i l := by
    intro r
    induction r with
    | zero => intro c ks e _ i q1 q2; omega
    | succ r ih =>
      intro c ks e hc i q1 q2
      unfold chainsK at hc
      cases hr : runK s c 1001 ks (s.heads.getD c 0) with
      | none => rw [hr] at hc; cases hc
      | some ks' =>
        rw [hr] at hc
        by_cases hi : i = c
        · subst hi
          obtain ⟨l, a1, a2, _⟩ := run_some hr
          exact ⟨l, a1, good_gd a2⟩
        · exact ih (c + 1) ks' (by omega) hc i (by omega) q2
  intro c hc
  exact hk s.heads.length 0 [] (by omega) h3 c (by omega) hc
theorem of_rt {s : Slb} (h : Rt s) : rightSl s = true := by
  obtain ⟨n1, n2, n3, n4⟩ := rt_sizes h.sz
  have hk : ∀ (r c : Nat) (ks : List Int), c + r = s.heads.length → (∀ k ∈ ks, k.tmod s.heads.length < c) → chainsK s r c ks = true := by
    intro r
    induction r with
    | zero => intro c ks _ _; rfl
    | succ r ih =>
      intro c ks e hks
      obtain ⟨l, q1, q2⟩ := h.ch c (by omega)
      have hg : goodK s c ks l := gd_good q2 (fun k hk y hy e2 => by
        have h1 := hks k hk
        have h2 := gd_mod q2 hy
        rw [e2] at h2
        omega)
      have hl := gd_len q2
      unfold chainsK
      rw [some_run (by omega) q1 hg (by omega)]
      refine ih (c + 1) _ (by omega) (fun k hk => ?_)
      rcases (keysR_mem s l ks k).1 hk with hm | ⟨z, hz, e2⟩
      · have := hks k hm
        omega
      · have := gd_mod q2 hz
        unfold kyN at this
        rw [e2] at this
        omega
  rw [right_keys, h.sz, h.sl, hk s.heads.length 0 [] (by omega) (fun k hk => by simp at hk)]
  rfl
/-- the chain that there is, is the one -/
theorem chain_is {s : Slb} {c : Nat} {l : List Int} (h : IsChain s c (s.heads.getD c 0) l) (hg : Gd s c l) : (chainOf s c).1 = l := by
  unfold chainOf
  rw [Int.toNat_natCast, chain_of (f := s.slots.length + 1) (by omega) h (fun y hy => (gd_in hg y hy).1) (by have := gd_len hg; omega)]
theorem chain_congr {s s' : Slb} {c : Int} : ∀ {l : List Int} {x : Int}, (∀ y ∈ l, nx s' y = nx s y) → IsChain s c x l → IsChain s' c x l
  | [], x, _, h => h
  | y :: l, x, hn, h => by
    obtain ⟨rfl, h⟩ := h
    refine ⟨rfl, ?_⟩
    rw [hn y (by simp)]
    exact chain_congr (fun z hz => hn z (List.mem_cons_of_mem _ hz)) h
theorem gd_congr {s s' : Slb} {c : Int} {l : List Int} (h1 : s'.slots.length = s.slots.length) (h2 : s'.heads.length = s.heads.length) (h : ∀ y ∈ l, kyN s' y = kyN s y ∧ (slotN s' y).refs ≠ 0) (hg : Gd s c l) : Gd s' c l := by
  refine ⟨fun y hy => ?_, ?_⟩
  · have := hg.1 y hy
    obtain ⟨q1, q2⟩ := h y hy
    unfold kyN at q1
    unfold mayB at this ⊢
    rw [h1, h2, q1]
    simp only [Bool.and_eq_true, Bool.not_eq_true', decide_eq_false_iff_not] at this ⊢
    exact ⟨this.1, q2, this.2.2⟩
  · rw [List.map_congr_left (fun y hy => (h y hy).1)]
    exact hg.2
theorem find_congr {s s' : Slb} {key : Int} : ∀ {l : List Int}, (∀ y ∈ l, kyN s' y = kyN s y) → findL s' key l = findL s key l
  | [], _ => rfl
  | y :: l, h => by
    have h0 := h y (by simp)
    unfold kyN at h0
    unfold findL
    rw [h0, find_congr (fun z hz => h z (List.mem_cons_of_mem _ hz))]
theorem slotN_set {s : Slb} {k : Nat} {v : Slt} {hs : List Int} (hk : k < s.slots.length) {y : Int} (hy : 0 ≤ y) : slotN ⟨s.slots.set k v, hs⟩ y = if y = (k : Int) then v else slotN s y := by
  unfold slotN
  by_cases e : y = (k : Int)
  · subst e
    rw [if_pos rfl, Int.toNat_natCast]
    simp [hk]
  · rw [if_neg e]
    have : k ≠ y.toNat := by omega
    simp [List.getElem?_set_ne this]
theorem slotsA_set {s : Slb} {k : Nat} {v : Slt} {hs : List Int} (hl : hs.length = s.heads.length) (h : slotsA s = true) (hv : okS s.slots.length s.heads.length v = true) : slotsA ⟨s.slots.set k v, hs⟩ = true := by
  unfold slotsA
  refine List.all_eq_true.2 fun x hx => ?_
  simp only [List.length_set, hl]
  rcases List.mem_or_eq_of_mem_set hx with e | e
  · exact List.all_eq_true.1 h x e
  · subst e; exact hv
theorem ok_get {s : Slb} (h : slotsA s = true) {k : Nat} (hk : k < s.slots.length) : keyB (s.slots.getD k zeroSlt).key = true ∧ timeB (s.slots.getD k zeroSlt).gen = true ∧ timeB (s.slots.getD k zeroSlt).refs = true ∧ nextB s.slots.length s.heads.length (s.slots.getD k zeroSlt).next = true := by
  have := slotsA_get h hk
  unfold okS at this
  simp only [Bool.and_eq_true] at this
  exact ⟨this.1.1.1, this.1.1.2, this.1.2, this.2⟩
theorem time_iff (n : Int) : timeB n = true ↔ 0 ≤ n ∧ n ≤ 1000000 := by unfold timeB; simp
theorem head_next {s : Slb} (h : Rt s) {c : Nat} (hc : c < s.heads.length) : nextB s.slots.length s.heads.length (s.heads.getD c 0) = true := by
  obtain ⟨l, q1, q2⟩ := h.ch c hc
  rw [next_in]
  unfold inB
  simp only [Bool.or_eq_true, Bool.and_eq_true, decide_eq_true_eq]
  cases l with
  | nil =>
    have q1 : s.heads.getD c 0 = -1 - (c : Int) := q1
    omega
  | cons y l =>
    have := gd_in q2 y (by simp)
    rw [← q1.1]
    omega
/-- other holders of a slot: still right -/
theorem rt_refs {s : Slb} (h : Rt s) {n : Nat} (hn : n < s.slots.length) {r : Int} (hr : timeB r = true) (h0 : r ≠ 0 ∨ ∀ (c : Nat) (l : List Int), c < s.heads.length → IsChain s c (s.heads.getD c 0) l → Gd s c l → (n : Int) ∉ l) : Rt (refS s (n : Int) r) := by
  have hok := ok_get h.sl hn
  have e : refS s (n : Int) r = ⟨s.slots.set n { s.slots.getD n zeroSlt with refs := r }, s.heads⟩ := by unfold refS; rw [slot_nat, Int.toNat_natCast]
  rw [e]
  have hsl : ∀ y : Int, 0 ≤ y → kyN ⟨s.slots.set n { s.slots.getD n zeroSlt with refs := r }, s.heads⟩ y = kyN s y ∧ nx ⟨s.slots.set n { s.slots.getD n zeroSlt with refs := r }, s.heads⟩ y = nx s y := by
    intro y hy
    have h1 := slotN_set (s := s) (k := n) (v := { s.slots.getD n zeroSlt with refs := r }) (hs := s.heads) hn hy
    have e2 : ∀ t : Slb, nx t y = (slotN t y).next := fun t => rfl
    unfold kyN
    rw [e2, e2, h1]
    by_cases e3 : y = (n : Int)
    · subst e3; rw [if_pos rfl, slot_nat]; exact ⟨rfl, rfl⟩
    · rw [if_neg e3]; exact ⟨rfl, rfl⟩
  refine ⟨?_, ?_, ?_⟩
  · have := h.sz
    unfold sizesB at this ⊢
    simpa using this
  · refine slotsA_set rfl h.sl ?_
    unfold okS
    simp only [hok.1, hok.2.1, hr, hok.2.2.2, Bool.and_true]
  · intro c hc
    obtain ⟨l, q1, q2⟩ := h.ch c hc
    refine ⟨l, chain_congr (fun y hy => (hsl y (gd_in q2 y hy).1).2) q1, gd_congr (s := s) (by simp) rfl (fun y hy => ⟨(hsl y (gd_in q2 y hy).1).1, ?_⟩) q2⟩
    rw [slotN_set hn (gd_in q2 y hy).1]
    by_cases e3 : y = (n : Int)
    · subst e3
      rw [if_pos rfl]
      rcases h0 with h0 | h0
      · exact h0
      · exact absurd hy (h0 c l hc q1 q2)
    · rw [if_neg e3]; exact gd_refs q2 hy
/-- what is in a chain is the slot of its key -/
theorem find_in {s : Slb} {key : Int} : ∀ {l : List Int}, (l.map (kyN s)).Nodup → ∀ y ∈ l, kyN s y = key → findL s key l = y
  | [], _, y, hy, _ => by simp at hy
  | z :: l, hn, y, hy, e => by
    obtain ⟨h1, h2⟩ := List.nodup_cons.1 hn
    unfold findL
    rcases List.mem_cons.1 hy with q | q
    · subst q
      have e' : (slotN s y).key = key := e
      rw [if_pos e']
    · have : (slotN s z).key ≠ key := fun e2 => h1 (List.mem_map.2 ⟨y, q, by rw [e]; exact e2.symm⟩)
      rw [if_neg this]
      exact find_in h2 y q e
theorem find_none {s : Slb} {key : Int} : ∀ {l : List Int}, (∀ y ∈ l, kyN s y ≠ key) → findL s key l = -1
  | [], _ => rfl
  | z :: l, h => by
    have h0 : (slotN s z).key ≠ key := h z (by simp)
    unfold findL
    rw [if_neg h0]
    exact find_none (fun y hy => h y (List.mem_cons_of_mem _ hy))
theorem find_at {s : Slb} {key : Int} {c : Nat} (hc : ((c : Nat) : Int) = key.tmod s.heads.length) {l : List Int} (h : IsChain s c (s.heads.getD c 0) l) (hg : Gd s c l) : findSl s key = findL s key l := by
  unfold findSl
  rw [← hc, chain_is h hg]
/-- got: still right -/
theorem get_right {s : Slb} {n : Int} (h : getC s n = 0) : rightSl (getS s n) = true := by
  have hs : getS s n = refS s n ((slotN s n).refs + 1) := by unfold getS; rw [if_pos h]
  unfold getC at h
  by_cases hb : beginAns s n = 0
  · rw [if_pos hb] at h
    obtain ⟨hr, h0, h1⟩ := begin_at hb
    obtain ⟨N, rfl⟩ : ∃ N : Nat, n = (N : Int) := ⟨n.toNat, by omega⟩
    have hb2 := refs_nat hr (i := N) (by omega)
    rw [hs]
    rw [slot_nat] at h ⊢
    have hlt : ¬ 1000000 ≤ (s.slots.getD N zeroSlt).refs := by
      intro e
      rw [if_pos e] at h
      cases h
    exact of_rt (rt_refs (rt_of hr) (by omega) ((time_iff _).2 (by omega)) (.inl (by omega)))
  · rw [if_neg hb] at h
    exact absurd h hb
/-- put: still right -/
theorem put_right {s : Slb} {n : Int} (h : putC s n = 0) : rightSl (putS s n) = true := by
  have hs : putS s n = refS s n ((slotN s n).refs - 1) := by unfold putS; rw [if_pos h]
  unfold putC at h
  by_cases hb : beginAns s n = 0
  · rw [if_pos hb] at h
    obtain ⟨hr, h0, h1⟩ := begin_at hb
    obtain ⟨N, rfl⟩ : ∃ N : Nat, n = (N : Int) := ⟨n.toNat, by omega⟩
    have hN : N < s.slots.length := by omega
    have hb2 := refs_nat hr hN
    have hne : (s.slots.getD N zeroSlt).refs ≠ 0 := by
      unfold beginAns at hb
      intro e
      rw [slot_nat, e] at hb
      split at hb <;> simp at hb
    rw [hs]
    rw [slot_nat] at h ⊢
    refine of_rt (rt_refs (rt_of hr) hN ((time_iff _).2 (by omega)) ?_)
    by_cases h1' : (s.slots.getD N zeroSlt).refs = 1
    · right
      intro c l hc q1 q2 hm
      have hl : linkedB s (N : Int) = true := by
        unfold linkedB
        rw [beq_iff_eq]
        have hmod := gd_mod q2 hm
        show findSl s (kyN s (N : Int)) = (N : Int)
        rw [find_at (c := c) hmod.symm q1 q2]
        exact find_in q2.2 _ hm rfl
      rw [if_pos ⟨h1', hl⟩] at h
      cases h
    · left; omega
  · rw [if_neg hb] at h
    exact absurd h hb
/-- what is got and put again is as it was -/
theorem get_put {s : Slb} {n : Int} (h : getC s n = 0) : putC (getS s n) n = 0 ∧ putS (getS s n) n = s := by
  have hr' := get_right h
  have hs : getS s n = refS s n ((slotN s n).refs + 1) := by unfold getS; rw [if_pos h]
  have hb : beginAns s n = 0 := by
    unfold getC at h
    by_cases hb : beginAns s n = 0
    · exact hb
    · rw [if_neg hb] at h; exact absurd h hb
  obtain ⟨hr, h0, h1⟩ := begin_at hb
  obtain ⟨N, rfl⟩ : ∃ N : Nat, n = (N : Int) := ⟨n.toNat, by omega⟩
  have hN : N < s.slots.length := by omega
  have hb2 := refs_nat hr hN
  have hne : (s.slots.getD N zeroSlt).refs ≠ 0 := by
    unfold beginAns at hb
    intro e
    rw [slot_nat, e] at hb
    split at hb <;> simp at hb
  have e0 : getS s (N : Int) = ⟨s.slots.set N { s.slots.getD N zeroSlt with refs := (s.slots.getD N zeroSlt).refs + 1 }, s.heads⟩ := by rw [hs]; unfold refS; rw [slot_nat, Int.toNat_natCast]
  have e1 : slotN (getS s (N : Int)) (N : Int) = { s.slots.getD N zeroSlt with refs := (s.slots.getD N zeroSlt).refs + 1 } := by rw [e0, slotN_set hN (by omega), if_pos rfl]
  have hat : atB (getS s (N : Int)) (N : Int) = true := by
    unfold atB
    rw [hr', e0]
    simp
    omega
  have hbe : beginAns (getS s (N : Int)) (N : Int) = 0 := by
    unfold beginAns
    rw [if_pos hat, e1, if_neg (by simp only; omega)]
  have hpc : putC (getS s (N : Int)) (N : Int) = 0 := by
    unfold putC
    rw [if_pos hbe, e1, if_neg (by rintro ⟨q, _⟩; simp only at q; omega)]
  refine ⟨hpc, ?_⟩
  unfold putS
  rw [if_pos hpc]
  unfold refS
  rw [e1, e0, Int.toNat_natCast]
  simp only [List.set_set, Int.add_sub_cancel]
  have : s.slots.set N { key := (s.slots.getD N zeroSlt).key, gen := (s.slots.getD N zeroSlt).gen, refs := (s.slots.getD N zeroSlt).refs, next := (s.slots.getD N zeroSlt).next } = s.slots := by
    apply List.ext_getElem
    · simp
    · intro i q1 q2
      rw [List.getElem_set]
      split
      · rename_i e; subst e; simp [hN]
      · rfl
  rw [this]
end Go.Proofs.Ytfjgofmjhccdkaa
end

section
namespace Go.Proofs.Ytfjgofmjhccdkaa
open Go.ChangeShapes Go.WideShapes Go.ChangeAt Go.RowKit
set_option linter.unusedVariables false
set_option linter.unusedSimpArgs false
set_option maxRecDepth 100000

/-- a walker -/
structure Wlk where
  key : Int
  cur : Int
  stage : Int
  state : Int
  slot : Int
  gen : Int
  steps : Int
/-- may it stand there at that stage? -/
def placeB (s : Slb) (c st : Int) : Bool :=
  if st = 0 then nextB s.slots.length s.heads.length c
  else if st = 1 then inB s.slots.length c
  else if st = 2 then inB s.slots.length c && (decide (2 ≤ (slotN s c).refs) || (decide ((slotN s c).refs = 1) && !linkedB s c))
  else false
/-- its state and what it tells beside it -/
def outB (s : Slb) (k : Wlk) : Bool :=
  if k.state = 0 ∨ k.state = 2 then decide (k.slot = 0) && decide (k.gen = 0)
  else if k.state = 1 then inB s.slots.length k.slot && timeB k.gen
  else false
/-- a right walker of a right slab -/
def wkR (s : Slb) (k : Wlk) : Bool := keyB k.key && (placeB s k.cur k.stage && (outB s k && timeB k.steps))
def wkRight (s : Slb) (k : Wlk) : Bool := rightSl s && wkR s k
/-- the head of a key's chain -/
def hdK (s : Slb) (key : Int) : Int := s.heads.getD (chN s key) 0
/-- a step -/
def stepP (s : Slb) (k : Wlk) : Slb × Wlk :=
  if k.cur < 0 then
    (if -1 - k.cur = k.key.tmod s.heads.length then (s, { k with steps := k.steps + 1, state := 2 }) else (s, { k with steps := k.steps + 1, cur := hdK s k.key }))
  else if k.stage = 0 then
    (if (slotN s k.cur).key = k.key then (s, { k with steps := k.steps + 1, stage := 1 }) else (s, { k with steps := k.steps + 1, cur := (slotN s k.cur).next }))
  else if k.stage = 1 then
    (if (slotN s k.cur).refs = 0 ∨ 1000000 ≤ (slotN s k.cur).refs then (s, { k with steps := k.steps + 1, stage := 0, cur := hdK s k.key }) else (refS s k.cur ((slotN s k.cur).refs + 1), { k with steps := k.steps + 1, stage := 2 }))
  else if (slotN s k.cur).key = k.key then (s, { k with steps := k.steps + 1, state := 1, slot := k.cur, gen := (slotN s k.cur).gen })
  else (refS s k.cur ((slotN s k.cur).refs - 1), { k with steps := k.steps + 1, stage := 0, cur := hdK s k.key })
/-- may it go on? -/
def goB (k : Wlk) : Bool := decide (k.state = 0) && decide (k.steps < 1000000)
/-- so many steps at most -/
def runP : Nat → Slb → Wlk → Slb × Wlk
  | 0, s, k => (s, k)
  | n + 1, s, k => if goB k = true then runP n (stepP s k).1 (stepP s k).2 else (s, k)
theorem refS_heads (s : Slb) (n r : Int) : (refS s n r).heads = s.heads := rfl
theorem refS_len (s : Slb) (n r : Int) : (refS s n r).slots.length = s.slots.length := by unfold refS; simp
theorem hd_next {s : Slb} (h : rightSl s = true) {key : Int} (hk : 0 ≤ key) : nextB s.slots.length s.heads.length (hdK s key) = true :=
  head_next (rt_of h) (chN_lt hk (rt_sizes (rt_of h).sz).2.2.1).1
theorem in_iff {n : Nat} {x : Int} : inB n x = true ↔ 0 ≤ x ∧ x < n := by unfold inB; simp
/-- where it stands -/
theorem place_cur {s : Slb} {c st : Int} (h : placeB s c st = true) : (c < 0 → st = 0 ∧ -1 - c < s.heads.length) ∧ (0 ≤ c → c < s.slots.length) ∧ 0 ≤ st ∧ st ≤ 2 := by
  unfold placeB at h
  split at h
  · rename_i e
    unfold nextB endB at h
    simp at h
    exact ⟨by omega, by omega, by omega, by omega⟩
  · split at h
    · obtain ⟨q1, q2⟩ := in_iff.1 h
      exact ⟨by omega, by omega, by omega, by omega⟩
    · split at h
      · simp only [Bool.and_eq_true] at h
        obtain ⟨q1, q2⟩ := in_iff.1 h.1
        exact ⟨by omega, by omega, by omega, by omega⟩
      · cases h
theorem wk_parts {s : Slb} {k : Wlk} : wkR s k = true ↔ (0 ≤ k.key ∧ k.key ≤ 999) ∧ placeB s k.cur k.stage = true ∧ outB s k = true ∧ 0 ≤ k.steps ∧ k.steps ≤ 1000000 := by
  unfold wkR
  simp only [Bool.and_eq_true, time_iff]
  unfold keyB
  simp
theorem out_zero {s : Slb} {k : Wlk} (h : outB s k = true) (h0 : k.state = 0) : k.slot = 0 ∧ k.gen = 0 := by
  unfold outB at h
  rw [if_pos (.inl h0)] at h
  simpa using h
theorem out_of_zero {s : Slb} {k : Wlk} (h : k.state = 0 ∨ k.state = 2) (h1 : k.slot = 0) (h2 : k.gen = 0) : outB s k = true := by
  unfold outB
  rw [if_pos h, h1, h2]
  rfl
theorem place_zero {s : Slb} {c : Int} (h : nextB s.slots.length s.heads.length c = true) : placeB s c 0 = true := by
  unfold placeB
  rw [if_pos rfl]
  exact h
/-- what is got at stage 1 -/
theorem step_get {s : Slb} {k : Wlk} (hr : rightSl s = true) (hw : wkR s k = true) (h1 : k.stage = 1) : 0 ≤ k.cur ∧ k.cur < s.slots.length ∧ (getC s k.cur = 0 ↔ ¬ ((slotN s k.cur).refs = 0 ∨ 1000000 ≤ (slotN s k.cur).refs)) := by
  obtain ⟨_, hp, _, _⟩ := wk_parts.1 hw
  rw [h1] at hp
  unfold placeB at hp
  rw [if_neg (by decide), if_pos rfl] at hp
  obtain ⟨q1, q2⟩ := in_iff.1 hp
  refine ⟨q1, q2, ?_⟩
  have ea : atB s k.cur = true := by unfold atB; rw [hr]; simp; omega
  unfold getC beginAns
  rw [if_pos ea]
  by_cases e : (slotN s k.cur).refs = 0
  · simp [e]
  · by_cases e2 : 1000000 ≤ (slotN s k.cur).refs
    · simp [e, e2]
    · simp [e, e2]
/-- what is put at stage 2 -/
theorem step_put {s : Slb} {k : Wlk} (hr : rightSl s = true) (hw : wkR s k = true) (h1 : k.stage = 2) : 0 ≤ k.cur ∧ k.cur < s.slots.length ∧ putC s k.cur = 0 := by
  obtain ⟨_, hp, _, _⟩ := wk_parts.1 hw
  rw [h1] at hp
  unfold placeB at hp
  rw [if_neg (by decide), if_neg (by decide), if_pos rfl, Bool.and_eq_true] at hp
  obtain ⟨q1, q2⟩ := in_iff.1 hp.1
  refine ⟨q1, q2, ?_⟩
  have ea : atB s k.cur = true := by unfold atB; rw [hr]; simp; omega
  have h2 := hp.2
  simp at h2
  have h3 : ¬ (slotN s k.cur).refs = 0 := by omega
  unfold putC beginAns
  rw [if_pos ea, if_neg h3, if_pos rfl]
  rcases h2 with h2 | h2
  · rw [if_neg (by omega)]
  · rw [if_neg (by rw [h2.2]; simp)]
theorem step_right {s : Slb} {k : Wlk} (hr : rightSl s = true) (hw : wkR s k = true) (hg : goB k = true) : rightSl (stepP s k).1 = true ∧ wkR (stepP s k).1 (stepP s k).2 = true := by
  obtain ⟨hk, hp, ho, ht⟩ := wk_parts.1 hw
  have hst : k.state = 0 ∧ k.steps < 1000000 := by unfold goB at hg; simpa using hg
  obtain ⟨hz1, hz2⟩ := out_zero ho hst.1
  obtain ⟨pc1, pc2, pc3, pc4⟩ := place_cur hp
  have hh : nextB s.slots.length s.heads.length (hdK s k.key) = true := hd_next hr hk.1
  unfold stepP
  by_cases hc : k.cur < 0
  · rw [if_pos hc]
    obtain ⟨e0, e1⟩ := pc1 hc
    split
    · exact ⟨hr, wk_parts.2 ⟨hk, hp, out_of_zero (.inr rfl) hz1 hz2, by show 0 ≤ k.steps + 1 ∧ k.steps + 1 ≤ 1000000; omega⟩⟩
    · refine ⟨hr, wk_parts.2 ⟨hk, ?_, out_of_zero (.inl hst.1) hz1 hz2, by show 0 ≤ k.steps + 1 ∧ k.steps + 1 ≤ 1000000; omega⟩⟩
      show placeB s (hdK s k.key) k.stage = true
      rw [e0]
      exact place_zero hh
  · rw [if_neg hc]
    obtain ⟨N, hN⟩ : ∃ N : Nat, k.cur = (N : Int) := ⟨k.cur.toNat, by omega⟩
    have hNl : N < s.slots.length := by have := pc2 (by omega); omega
    have hok := ok_get (rt_of hr).sl hNl
    have ex : slotN s k.cur = s.slots.getD N zeroSlt := by rw [hN, slot_nat]
    by_cases h0 : k.stage = 0
    · rw [if_pos h0]
      split
      · refine ⟨hr, wk_parts.2 ⟨hk, ?_, out_of_zero (.inl hst.1) hz1 hz2, by show 0 ≤ k.steps + 1 ∧ k.steps + 1 ≤ 1000000; omega⟩⟩
        show placeB s k.cur 1 = true
        unfold placeB
        rw [if_neg (by decide), if_pos rfl]
        exact in_iff.2 (by omega)
      · refine ⟨hr, wk_parts.2 ⟨hk, ?_, out_of_zero (.inl hst.1) hz1 hz2, by show 0 ≤ k.steps + 1 ∧ k.steps + 1 ≤ 1000000; omega⟩⟩
        show placeB s (slotN s k.cur).next k.stage = true
        rw [h0, ex]
        exact place_zero hok.2.2.2
    · rw [if_neg h0]
      by_cases h1 : k.stage = 1
      · rw [if_pos h1]
        obtain ⟨g1, g2, g3⟩ := step_get hr hw h1
        by_cases hb : (slotN s k.cur).refs = 0 ∨ 1000000 ≤ (slotN s k.cur).refs
        · rw [if_pos hb]
          exact ⟨hr, wk_parts.2 ⟨hk, place_zero hh, out_of_zero (.inl hst.1) hz1 hz2, by show 0 ≤ k.steps + 1 ∧ k.steps + 1 ≤ 1000000; omega⟩⟩
        · rw [if_neg hb]
          have eg := g3.2 hb
          have es : getS s k.cur = refS s k.cur ((slotN s k.cur).refs + 1) := by unfold getS; rw [if_pos eg]
          have hr2 := get_right eg
          rw [es] at hr2
          refine ⟨hr2, wk_parts.2 ⟨hk, ?_, out_of_zero (.inl hst.1) hz1 hz2, by show 0 ≤ k.steps + 1 ∧ k.steps + 1 ≤ 1000000; omega⟩⟩
          show placeB (refS s k.cur ((slotN s k.cur).refs + 1)) k.cur 2 = true
          have hpos : 0 ≤ (slotN s k.cur).refs := by rw [ex]; exact (refs_nat hr hNl).1
          have e2 : (slotN (refS s k.cur ((slotN s k.cur).refs + 1)) k.cur).refs = (slotN s k.cur).refs + 1 := by
            rw [hN]
            unfold refS slotN
            rw [Int.toNat_natCast]
            simp [List.getD_eq_getElem?_getD, hNl]
          unfold placeB
          rw [if_neg (by decide), if_neg (by decide), if_pos rfl, e2, refS_len, in_iff.2 ⟨g1, g2⟩, decide_eq_true (by omega : 2 ≤ (slotN s k.cur).refs + 1)]
          rfl
      · rw [if_neg h1]
        have h2 : k.stage = 2 := by omega
        obtain ⟨g1, g2, g3⟩ := step_put hr hw h2
        split
        · refine ⟨hr, wk_parts.2 ⟨hk, hp, ?_, by show 0 ≤ k.steps + 1 ∧ k.steps + 1 ≤ 1000000; omega⟩⟩
          unfold outB
          rw [if_neg (by simp), if_pos rfl]
          show (inB s.slots.length k.cur && timeB (slotN s k.cur).gen) = true
          rw [in_iff.2 ⟨g1, g2⟩, ex, hok.2.1]
          rfl
        · have es : putS s k.cur = refS s k.cur ((slotN s k.cur).refs - 1) := by unfold putS; rw [if_pos g3]
          have hr2 := put_right g3
          rw [es] at hr2
          refine ⟨hr2, wk_parts.2 ⟨hk, ?_, out_of_zero (.inl hst.1) hz1 hz2, by show 0 ≤ k.steps + 1 ∧ k.steps + 1 ≤ 1000000; omega⟩⟩
          show placeB (refS s k.cur ((slotN s k.cur).refs - 1)) (hdK s k.key) 0 = true
          apply place_zero
          rw [refS_len, refS_heads]
          exact hh
theorem step_key (s : Slb) (k : Wlk) : (stepP s k).2.key = k.key ∧ (stepP s k).2.steps = k.steps + 1 ∧ (stepP s k).1.heads = s.heads ∧ (stepP s k).1.slots.length = s.slots.length := by
  unfold stepP
  repeat' split
  all_goals first | exact ⟨rfl, rfl, rfl, rfl⟩ | exact ⟨rfl, rfl, rfl, refS_len _ _ _⟩
theorem run_go {n : Nat} {s : Slb} {k : Wlk} (h : goB k = true) : runP (n + 1) s k = runP n (stepP s k).1 (stepP s k).2 := by
  show (if goB k = true then _ else _) = _
  rw [if_pos h]
theorem run_stop {s : Slb} {k : Wlk} (h : goB k = false) : ∀ n, runP n s k = (s, k)
  | 0 => rfl
  | n + 1 => by
    show (if goB k = true then _ else _) = _
    rw [h]
    rfl
end Go.Proofs.Ytfjgofmjhccdkaa
end
