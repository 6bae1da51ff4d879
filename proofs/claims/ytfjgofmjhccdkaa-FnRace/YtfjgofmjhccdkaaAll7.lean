/- Proved here: impl.areTimes and impl.slotsRight answer as the plain functions; all old memory stays (conditions: the slab's rows can be read; at most 2^20 numbers). · Proved here: nothing of a program: chains that are gone along by slots not seen, and by keys not seen, are right alike. -/
import Derived.Test.YtfjgofmjhccdkaaSlabI2
section
namespace Go.Proofs.Ytfjgofmjhccdkaa
open Go.ChangeShapes Go.WideShapes Go.ChangeAt Go.RowKit
set_option linter.unusedVariables false
set_option linter.unusedSimpArgs false
set_option maxRecDepth 100000

/-- are all of them times? -/
def allT (zs : List Int) : Bool := zs.all timeB
theorem allT_no {zs : List Int} {k : Nat} (hk : k < zs.length) (h : timeB (zs.getD k 0) = false) : allT zs = false := by
  rw [Bool.eq_false_iff]
  intro h1
  have := List.all_eq_true.1 h1 (zs.getD k 0) (by rw [List.getD_eq_getElem?_getD, List.getElem?_eq_getElem hk]; exact List.getElem_mem _)
  rw [h] at this; cases this
theorem allT_yes {zs : List Int} (h : ∀ k, k < zs.length → timeB (zs.getD k 0) = true) : allT zs = true := List.all_eq_true.2 fun x hx => by
  obtain ⟨i, hi, e⟩ := List.getElem_of_mem hx
  have := h i hi
  rw [List.getD_eq_getElem?_getD, List.getElem?_eq_getElem hi] at this
  rw [← e]; exact this
set_option maxHeartbeats 1000000 in
theorem areTimes_any (a : Option Addr) (c : Nat) (zs : List Int) (w : World) (hR : RowZ a zs w) (hl : zs.length ≤ 1048576) :
    Calls Try.prog 64 #[.slice a zs.length c] w fun e w' => e = .returned (.bool (allT zs)) ∧ w' = w := by
  have HR := hidS hR
  clear hR
  go_enter Try.func64, Try.ntmps64
  go_wp2_with fail
  go_loopw [7] (fun i wr => ∃ k : Nat, i = .int .i64 (k : Int) ∧ k ≤ zs.length ∧ (∀ j, j < k → timeB (zs.getD j 0) = true) ∧ wr = w) (fun i _ => (zs.length - (intOf i).toNat))
  case atStart => exact ⟨0, rfl, Nat.zero_le _, fun j hj => by omega, rfl⟩
  case round =>
    obtain ⟨k, rfl, hk, hok, rfl⟩ := hrel
    have HOK := hidS hok
    clear hok
    by_cases hlt : k < zs.length
    · have hlt' : (0 : Int) ≤ (k : Int) ∧ (k : Int) < (zs.length : Int) := by omega
      obtain ⟨b, o, e, lb, c0⟩ := HR.out k hlt
      have hE := hidS e
      have EN := hidS (fun h => allT_no (zs := zs) hlt h)
      have EY : Hid (timeB (zs.getD k 0) = true → ∀ j, j < k + 1 → timeB (zs.getD j 0) = true) := hidS (fun h j hj => by
        by_cases e : j < k
        · exact HOK.out j e
        · have : j = k := by omega
          subst this; exact h)
      generalize zs.getD k 0 = z at c0 EN EY
      by_cases hz : 0 ≤ z ∧ z ≤ 1000000
      · have EB : Hid (timeB z = true) := by show _ = _; unfold timeB; simp; omega
        obtain ⟨hz0, hz1⟩ := hz
        have hz0' : ¬ z < 0 := by omega
        go_wp2_with fail
        go_roundw
        case rel => exact ⟨k + 1, by simp, by omega, EY.out EB.out, trivial⟩
        case measure => simp [intOf]; omega
      · have EB : Hid (allT zs = false) := hidS (EN.out (by unfold timeB; simp; omega))
        by_cases hz0 : z < 0
        · clear hz
          go_wp2_with fail
          go_ret
          exact ⟨by rw [EB.out]; rfl, rfl⟩
        · have hz1 : ¬ z ≤ 1000000 := by omega
          have hz2 : 1000000 < z := by omega
          clear hz
          go_wp2_with fail
          go_ret
          exact ⟨by rw [EB.out]; rfl, rfl⟩
    · have hge : ¬ (k : Int) < (zs.length : Int) := by omega
      have EB : Hid (allT zs = true) := hidS (allT_yes (fun j hj => HOK.out j (by omega)))
      clear HOK hlt hk
      go_wp2_with fail
      go_ret
      exact ⟨by rw [EB.out]; rfl, rfl⟩
/-- are the numbers of all slots in their bounds? -/
def slotsA (s : Slb) : Bool := s.slots.all (okS s.slots.length s.heads.length)
theorem slotsA_no {s : Slb} {k : Nat} (hk : k < s.slots.length) (h : okS s.slots.length s.heads.length (s.slots.getD k zeroSlt) = false) : slotsA s = false := by
  rw [Bool.eq_false_iff]
  intro h1
  have := List.all_eq_true.1 h1 (s.slots.getD k zeroSlt) (by rw [List.getD_eq_getElem?_getD, List.getElem?_eq_getElem hk]; exact List.getElem_mem _)
  rw [h] at this; cases this
theorem slotsA_yes {s : Slb} (h : ∀ k, k < s.slots.length → okS s.slots.length s.heads.length (s.slots.getD k zeroSlt) = true) : slotsA s = true := List.all_eq_true.2 fun x hx => by
  obtain ⟨i, hi, e⟩ := List.getElem_of_mem hx
  have := h i hi
  rw [List.getD_eq_getElem?_getD, List.getElem?_eq_getElem hi] at this
  rw [← e]; exact this
theorem slotsA_get {s : Slb} (h : slotsA s = true) {k : Nat} (hk : k < s.slots.length) : okS s.slots.length s.heads.length (s.slots.getD k zeroSlt) = true :=
  List.all_eq_true.1 h (s.slots.getD k zeroSlt) (by rw [List.getD_eq_getElem?_getD, List.getElem?_eq_getElem hk]; exact List.getElem_mem _)
set_option maxHeartbeats 4000000 in
theorem slotsRight_any (aS aH : Option Addr) (cS cH : Nat) (s : Slb) (w : World) (hR : SlabZ aS aH s w) (hF : SlabFit s) (h0 : 1 ≤ s.slots.length) (h1 : s.slots.length ≤ 1048576) (h2 : s.heads.length ≤ 1048576) :
    Calls Try.prog 105 #[.agg #[.slice aS s.slots.length cS, .slice aH s.heads.length cH]] w fun e w' => e = .returned (.bool (slotsA s)) ∧ Below w.heap.size w w' := by
  obtain ⟨bS, oS, rfl, _⟩ := hR.slots.slot (i := 0) (by omega)
  have HR := hidS hR
  have HFT := hidS hF
  clear hR hF
  have hA0 := hidS (heap_newG w (.cells #[.slice (some ⟨bS, oS, none⟩) s.slots.length cS, .slice aH s.heads.length cH] 26))
  have hb0 := hidS ((Below.refl w.heap.size w).alloc (Nat.le_refl _) (.cells #[.slice (some ⟨bS, oS, none⟩) s.slots.length cS, .slice aH s.heads.length cH] 26))
  go_enter Try.func105, Try.ntmps105
  go_wp2_with fail
  generalize w.alloc (.cells #[.slice (some ⟨bS, oS, none⟩) s.slots.length cS, .slice aH s.heads.length cH] 26) = w0 at hA0 hb0 ⊢
  go_loopw [8] (fun i wr => ∃ k : Nat, i = .int .i64 (k : Int) ∧ k ≤ s.slots.length ∧ (∀ j, j < k → okS s.slots.length s.heads.length (s.slots.getD j zeroSlt) = true) ∧ wr.heap[w.heap.size]? = some (.cells #[.slice (some ⟨bS, oS, none⟩) s.slots.length cS, .slice aH s.heads.length cH] 26) ∧ Below w.heap.size w wr) (fun i _ => (s.slots.length - (intOf i).toNat))
  case atStart => exact ⟨0, rfl, Nat.zero_le _, fun j hj => by omega, hA0.out, hb0.out⟩
  case round =>
    obtain ⟨k, rfl, hk, hok, hA, hb⟩ := hrel
    have HA := hidS hA
    have HB := hidS hb
    have HOK := hidS hok
    have lA := blk_lt hA
    clear hA hb hok
    by_cases hlt : k < s.slots.length
    · have hlt' : (0 : Int) ≤ (k : Int) ∧ (k : Int) < (s.slots.length : Int) := by omega
      obtain ⟨b', o', eS, lS, c0, c1, c2, c3⟩ := (HR.out.slots.later HB.out).slot hlt
      injection eS with eS; injection eS with eS1 eS2
      subst eS1 eS2
      have hfit := (HFT.out.slots (s.slots.getD k zeroSlt) (by rw [List.getD_eq_getElem?_getD, List.getElem?_eq_getElem hlt]; exact List.getElem_mem _)).2.2.2
      obtain ⟨x, hx⟩ : ∃ x, s.slots.getD k zeroSlt = x := ⟨_, rfl⟩
      have EX := hidS hx
      rw [hx] at c0 c1 c2 c3 hfit
      clear hx
      have hX2 := hidS (heap_newG wr (.cells #[.int .i64 x.key, .int .i64 x.gen, .int .i64 x.refs, .int .i64 x.next] 45))
      have hA2 := hidS (blk_alloc HA.out (.cells #[.int .i64 x.key, .int .i64 x.gen, .int .i64 x.refs, .int .i64 x.next] 45))
      have hB2 := hidS (HB.out.alloc (by omega) (.cells #[.int .i64 x.key, .int .i64 x.gen, .int .i64 x.refs, .int .i64 x.next] 45))
      go_upto_region 4 with fail
      generalize wr.alloc (.cells #[.int .i64 x.key, .int .i64 x.gen, .int .i64 x.refs, .int .i64 x.next] 45) = w2 at hX2 hA2 hB2 ⊢
      generalize wr.heap.size = g at *
      clear c0 c1 c2 c3 HA HB
      have x0 := blk_cell hX2.out 0
      have x1 := blk_cell hX2.out 1
      have x2 := blk_cell hX2.out 2
      have x3 := blk_cell hX2.out 3
      simp at x0 x1 x2 x3
      have hX3 := hidS (blk_alloc hX2.out (.cells #[.int .i64 x.gen, .int .i64 x.refs] 2))
      have hA3 := hidS (blk_alloc hA2.out (.cells #[.int .i64 x.gen, .int .i64 x.refs] 2))
      have hY3 := hidS (heap_newG w2 (.cells #[.int .i64 x.gen, .int .i64 x.refs] 2))
      have hB3 := hidS (hB2.out.alloc hB2.out.size (.cells #[.int .i64 x.gen, .int .i64 x.refs] 2))
      have HK := hidS (fun W => implIsKey_any x.key W)
      have HT := hidS (fun (b c : Nat) (W : World) (h : W.heap[b]? = some (.cells #[.int .i64 x.gen, .int .i64 x.refs] 2)) => areTimes_any (some ⟨b, 0, none⟩) c [x.gen, x.refs] W (rowB_new (zs := [x.gen, x.refs]) h).read (by simp))
      have HN := hidS (fun W => isLink_any (some ⟨bS, oS, none⟩) aH s.slots.length cS s.heads.length cH x.next W hfit h1 h2)
      have EB : Hid (okS s.slots.length s.heads.length (s.slots.getD k zeroSlt) = (keyB x.key && allT [x.gen, x.refs] && nextB s.slots.length s.heads.length x.next)) := by
        show _ = _
        rw [EX.out]
        unfold okS allT
        simp only [List.all_cons, List.all_nil, Bool.and_true]
        cases keyB x.key <;> cases timeB x.gen <;> rfl
      generalize keyB x.key = q1 at HK EB
      generalize allT [x.gen, x.refs] = q2 at HT EB
      generalize nextB s.slots.length s.heads.length x.next = q3 at HN EB
      cases q1
      · go_wp2_with fail
        refine (HK.out _).mono ?_
        rintro e w9 ⟨rfl, hw9⟩
        rw [hw9]
        clear hw9 w9
        have EN : Hid (slotsA s = false) := hidS (slotsA_no hlt (by rw [EB.out]; simp))
        go_wp2_with fail
        go_ret
        exact ⟨by rw [EN.out]; rfl, hB2.out⟩
      cases q2
      · go_wp2_with fail
        refine (HK.out _).mono ?_
        rintro e w9 ⟨rfl, hw9⟩
        rw [hw9]
        clear hw9 w9
        go_wp2_with fail
        refine (HT.out w2.heap.size 2 _ hY3.out).mono ?_
        rintro e w9 ⟨rfl, hw9⟩
        rw [hw9]
        clear hw9 w9
        have EN : Hid (slotsA s = false) := hidS (slotsA_no hlt (by rw [EB.out]; simp))
        go_wp2_with fail
        go_ret
        exact ⟨by rw [EN.out]; rfl, hB3.out⟩
      cases q3
      · go_wp2_with fail
        refine (HK.out _).mono ?_
        rintro e w9 ⟨rfl, hw9⟩
        rw [hw9]
        clear hw9 w9
        go_wp2_with fail
        refine (HT.out w2.heap.size 2 _ hY3.out).mono ?_
        rintro e w9 ⟨rfl, hw9⟩
        rw [hw9]
        clear hw9 w9
        clear x0 x1 x2 x3
        generalize w2.alloc (.cells #[.int .i64 x.gen, .int .i64 x.refs] 2) = w3 at hX3 hA3 hB3 ⊢
        have x3 := blk_cell hX3.out 3
        have y0 := blk_cell hA3.out 0
        have y1 := blk_cell hA3.out 1
        simp at x3 y0 y1
        go_wp2_with fail
        refine (HN.out _).mono ?_
        rintro e w4 ⟨rfl, hb4⟩
        have hB4 := hidS (hB3.out.trans (hb4.mono hB3.out.size))
        have hA4 := hidS (blk_later hA3.out hb4)
        clear hb4 x3 y0 y1 hA3 hB3 hX3
        have EN : Hid (slotsA s = false) := hidS (slotsA_no hlt (by rw [EB.out]; simp))
        go_wp2_with fail
        go_ret
        exact ⟨by rw [EN.out]; rfl, hB4.out⟩
      · go_wp2_with fail
        refine (HK.out _).mono ?_
        rintro e w9 ⟨rfl, hw9⟩
        rw [hw9]
        clear hw9 w9
        go_wp2_with fail
        refine (HT.out w2.heap.size 2 _ hY3.out).mono ?_
        rintro e w9 ⟨rfl, hw9⟩
        rw [hw9]
        clear hw9 w9
        clear x0 x1 x2 x3
        generalize w2.alloc (.cells #[.int .i64 x.gen, .int .i64 x.refs] 2) = w3 at hX3 hA3 hB3 ⊢
        have x3 := blk_cell hX3.out 3
        have y0 := blk_cell hA3.out 0
        have y1 := blk_cell hA3.out 1
        simp at x3 y0 y1
        go_wp2_with fail
        refine (HN.out _).mono ?_
        rintro e w4 ⟨rfl, hb4⟩
        have hB4 := hidS (hB3.out.trans (hb4.mono hB3.out.size))
        have hA4 := hidS (blk_later hA3.out hb4)
        clear hb4 x3 y0 y1 hA3 hB3 hX3
        go_wp2_with fail
        go_roundw
        case rel =>
          refine ⟨k + 1, by simp, by omega, fun j hj => ?_, hA4.out, hB4.out⟩
          by_cases e : j < k
          · exact HOK.out j e
          · have : j = k := by omega
            subst this
            rw [EB.out]; rfl
        case measure => simp [intOf]; omega
    · have hge : ¬ (k : Int) < (s.slots.length : Int) := by omega
      have EY : Hid (slotsA s = true) := hidS (slotsA_yes (fun j hj => HOK.out j (by omega)))
      clear HOK hk hlt
      go_wp2_with fail
      go_ret
      exact ⟨by rw [EY.out]; rfl, HB.out⟩
end Go.Proofs.Ytfjgofmjhccdkaa
end

section
namespace Go.Proofs.Ytfjgofmjhccdkaa
open Go.ChangeShapes Go.WideShapes Go.ChangeAt Go.RowKit
set_option linter.unusedVariables false
set_option linter.unusedSimpArgs false
set_option maxRecDepth 100000

theorem pigeon : ∀ (n : Nat) (l : List Int), l.Nodup → (∀ x ∈ l, 0 ≤ x ∧ x < n) → l.length ≤ n
  | 0, [], _, _ => Nat.le_refl _
  | 0, x :: l, _, h => by have := h x (by simp); omega
  | n + 1, l, hd, h => by
    by_cases hm : (n : Int) ∈ l
    · have h1 := pigeon n (l.erase n) (hd.erase _) (fun x hx => by
        have h2 := (hd.mem_erase_iff).1 hx
        have := h x h2.2
        have := h2.1
        omega)
      have h2 := List.length_erase_of_mem hm
      have h3 : 0 < l.length := List.length_pos_of_mem hm
      omega
    · have := pigeon n l hd (fun x hx => by
        have := h x hx
        have : x ≠ (n : Int) := fun e => hm (e ▸ hx)
        omega)
      omega
/-- how many numbers below 1000 are not seen yet -/
def unseen (seen : List Int) : Nat := ((List.range 1000).filter fun i : Nat => decide ((i : Int) ∉ seen)).length
theorem filter_lessN {l : List Nat} {p q : Nat → Bool} (h : ∀ x, p x = true → q x = true) {k : Nat} (hk : k ∈ l) (h1 : q k = true) (h2 : p k = false) : (l.filter p).length < (l.filter q).length := by
  have hle : ∀ l : List Nat, (l.filter p).length ≤ (l.filter q).length := by
    intro l
    induction l with
    | nil => simp
    | cons a l ih =>
      simp only [List.filter_cons]
      cases hp : p a
      · cases q a <;> simp <;> omega
      · rw [h a hp]; simp; omega
  induction l with
  | nil => simp at hk
  | cons a l ih =>
    simp only [List.filter_cons]
    rcases List.mem_cons.1 hk with e | e
    · subst e
      rw [h1, h2]
      have := hle l
      simp; omega
    · have := ih e
      cases hp : p a
      · cases q a <;> simp <;> omega
      · rw [h a hp]; simp; omega
theorem unseen_step {seen : List Int} {k : Nat} (hk : k < 1000) (hn : (k : Int) ∉ seen) : unseen ((k : Int) :: seen) < unseen seen := by
  unfold unseen
  refine filter_lessN (k := k) ?_ (List.mem_range.2 hk) (by simp [hn]) (by simp)
  intro x hx
  simp at hx ⊢
  exact hx.2
theorem unseen_le (seen : List Int) : unseen seen ≤ 1000 := by
  unfold unseen
  have := List.length_filter_le (fun i : Nat => decide ((i : Int) ∉ seen)) (List.range 1000)
  simpa using this
/-- a chain gone along by its slots' keys -/
def runK (s : Slb) (c : Int) : Nat → List Int → Int → Option (List Int)
  | 0, seen, x => none
  | f + 1, seen, x => if x = -1 - c then some seen else if mayB s x c = true ∧ (slotN s x).key ∉ seen then runK s c f ((slotN s x).key :: seen) (nx s x) else none
def chainsK (s : Slb) : Nat → Nat → List Int → Bool
  | 0, c, seen => true
  | r + 1, c, seen => match runK s c 1001 seen (s.heads.getD c 0) with | none => false | some seen' => chainsK s r (c + 1) seen'
/-- from x by these slots to the end of the chain -/
def IsChain (s : Slb) (c : Int) : Int → List Int → Prop
  | x, [] => x = -1 - c
  | x, y :: l => y = x ∧ IsChain s c (nx s x) l
/-- each may lie there, and no key was seen -/
def goodK (s : Slb) (c : Int) : List Int → List Int → Prop
  | seen, [] => True
  | seen, y :: l => (mayB s y c = true ∧ (slotN s y).key ∉ seen) ∧ goodK s c ((slotN s y).key :: seen) l
def keysR (s : Slb) : List Int → List Int → List Int
  | seen, [] => seen
  | seen, y :: l => keysR s ((slotN s y).key :: seen) l
theorem run_some {s : Slb} {c : Int} : ∀ {f : Nat} {seen : List Int} {x : Int} {seen' : List Int}, runK s c f seen x = some seen' → ∃ l, IsChain s c x l ∧ goodK s c seen l ∧ seen' = keysR s seen l
  | 0, seen, x, seen', h => by simp [runK] at h
  | f + 1, seen, x, seen', h => by
    unfold runK at h
    by_cases hx : x = -1 - c
    · rw [if_pos hx] at h
      injection h with h
      exact ⟨[], hx, trivial, h.symm⟩
    · rw [if_neg hx] at h
      by_cases hm : mayB s x c = true ∧ (slotN s x).key ∉ seen
      · rw [if_pos hm] at h
        obtain ⟨l, h1, h2, h3⟩ := run_some h
        exact ⟨x :: l, ⟨rfl, h1⟩, ⟨hm, h2⟩, h3⟩
      · rw [if_neg hm] at h; cases h
theorem may_in {s : Slb} {x c : Int} (h : mayB s x c = true) : 0 ≤ x ∧ x < s.slots.length := by
  unfold mayB inB at h
  simp only [Bool.and_eq_true, decide_eq_true_eq] at h
  exact h.1
theorem some_run {s : Slb} {c : Int} (hc : 0 ≤ c) : ∀ {f : Nat} {seen : List Int} {x : Int} {l : List Int}, IsChain s c x l → goodK s c seen l → l.length < f → runK s c f seen x = some (keysR s seen l)
  | 0, seen, x, l, _, _, h => by omega
  | f + 1, seen, x, [], h1, h2, h => by
    have h1 : x = -1 - c := h1
    unfold runK
    rw [if_pos h1]; rfl
  | f + 1, seen, x, y :: l, h1, h2, h => by
    obtain ⟨rfl, h1⟩ := h1
    obtain ⟨hm, h2⟩ := h2
    have hin := may_in hm.1
    unfold runK
    rw [if_neg (by omega), if_pos hm, some_run hc h1 h2 (by simp at h; omega)]
    rfl
theorem good_seen {s : Slb} {c : Int} : ∀ {seen l : List Int}, goodK s c seen l → ∀ k ∈ seen, ∀ y ∈ l, (slotN s y).key ≠ k
  | seen, [], _, k, hk, y, hy => by simp at hy
  | seen, z :: l, h, k, hk, y, hy => by
    rcases List.mem_cons.1 hy with e | e
    · subst e
      exact fun e => h.1.2 (e ▸ hk)
    · exact good_seen h.2 k (List.mem_cons_of_mem _ hk) y e
theorem good_nodup {s : Slb} {c : Int} : ∀ {seen l : List Int}, goodK s c seen l → l.Nodup
  | seen, [], _ => List.nodup_nil
  | seen, z :: l, h => by
    refine List.nodup_cons.2 ⟨fun hm => ?_, good_nodup h.2⟩
    exact good_seen h.2 _ (List.mem_cons_self) z hm rfl
theorem good_in {s : Slb} {c : Int} : ∀ {seen l : List Int}, goodK s c seen l → ∀ y ∈ l, 0 ≤ y ∧ y < s.slots.length
  | seen, [], _, y, hy => by simp at hy
  | seen, z :: l, h, y, hy => by
    rcases List.mem_cons.1 hy with e | e
    · subst e; exact may_in h.1.1
    · exact good_in h.2 y e
theorem chain_of {s : Slb} {c : Int} (hc : 0 ≤ c) : ∀ {f : Nat} {x : Int} {l : List Int}, IsChain s c x l → (∀ y ∈ l, 0 ≤ y) → l.length ≤ f → chainL s f x = (l, -1 - c)
  | 0, x, [], h, _, _ => by have h : x = -1 - c := h; subst h; rfl
  | 0, x, y :: l, _, _, h => by simp at h
  | f + 1, x, [], h, _, _ => by
    have h : x = -1 - c := h
    unfold chainL
    rw [if_neg (by omega), h]
  | f + 1, x, y :: l, h, h0, hl => by
    obtain ⟨rfl, h⟩ := h
    have := h0 y (by simp)
    unfold chainL
    rw [if_pos this, chain_of hc h (fun z hz => h0 z (List.mem_cons_of_mem _ hz)) (by simp at hl; omega)]
theorem of_chain {s : Slb} {c : Int} : ∀ {f : Nat} {x : Int} {l : List Int}, chainL s f x = (l, -1 - c) → IsChain s c x l
  | 0, x, l, h => by
    unfold chainL at h
    injection h with h1 h2
    subst h1; exact h2
  | f + 1, x, l, h => by
    unfold chainL at h
    by_cases hx : 0 ≤ x
    · rw [if_pos hx] at h
      injection h with h1 h2
      subst h1
      exact ⟨rfl, of_chain (f := f) (by rw [← h2])⟩
    · rw [if_neg hx] at h
      injection h with h1 h2
      subst h1; exact h2
open Classical in
theorem run_chain {s : Slb} {c : Nat} (hS : s.slots.length ≤ 24) (seen : List Int) : runK s c 1001 seen (s.heads.getD c 0) = if (chainOf s c).2 = -1 - (c : Int) ∧ goodK s c seen (chainOf s c).1 then some (keysR s seen (chainOf s c).1) else none := by
  have hcn : (c : Int).toNat = c := Int.toNat_natCast c
  by_cases h : (chainOf s c).2 = -1 - (c : Int) ∧ goodK s c seen (chainOf s c).1
  · rw [if_pos h]
    have h1 : IsChain s c (s.heads.getD c 0) (chainOf s c).1 := by
      refine of_chain (f := s.slots.length + 1) ?_
      have := h.1
      unfold chainOf at this ⊢
      rw [hcn] at this ⊢
      rw [← this]
    refine some_run (by omega) h1 h.2 ?_
    have := chain_len s (s.slots.length + 1) (s.heads.getD (c : Int).toNat 0)
    unfold chainOf
    omega
  · rw [if_neg h]
    cases hr : runK s c 1001 seen (s.heads.getD c 0) with
    | none => rfl
    | some seen' =>
      exfalso
      obtain ⟨l, h1, h2, h3⟩ := run_some hr
      have hlen := pigeon s.slots.length l (good_nodup h2) (good_in h2)
      have := chain_of (f := s.slots.length + 1) (by omega) h1 (fun y hy => (good_in h2 y hy).1) (by omega)
      apply h
      unfold chainOf
      rw [hcn, this]
      exact ⟨rfl, h2⟩
/-- what was seen by slots, and by keys -/
structure SeenBy (s : Slb) (c : Int) (sn pre ks : List Int) : Prop where
  keys : ∀ k, k ∈ ks ↔ ∃ z ∈ sn, (slotN s z).key = k
  ahead : ∀ z ∈ pre, z ∈ sn
  other : ∀ z ∈ sn, z ∈ pre ∨ (slotN s z).key.tmod s.heads.length < c
theorem refs_of {s : Slb} (h : slotsA s = true) {y : Int} (h0 : 0 ≤ y) (h1 : y < s.slots.length) : 0 ≤ (slotN s y).refs := by
  have := slotsA_get h (k := y.toNat) (by omega)
  unfold okS timeB at this
  simp only [Bool.and_eq_true, decide_eq_true_eq] at this
  exact this.1.2.1
theorem bad_may {s : Slb} (h : slotsA s = true) {c : Int} {sn pre ks : List Int} (hI : SeenBy s c sn pre ks) {y : Int} (h0 : 0 ≤ y) (h1 : y < s.slots.length) : badB s c sn pre y = false ↔ (mayB s y c = true ∧ (slotN s y).key ∉ ks) := by
  have hr := refs_of h h0 h1
  unfold badB mayB inB
  simp only [Bool.or_eq_false_iff, decide_eq_false_iff_not, Bool.and_eq_true, decide_eq_true_eq, List.any_eq_false, Bool.not_eq_true', beq_iff_eq, ne_eq, Classical.not_not]
  constructor
  · rintro ⟨⟨⟨a, b⟩, d⟩, e⟩
    refine ⟨⟨⟨h0, h1⟩, by omega, d⟩, fun hk => ?_⟩
    obtain ⟨z, hz, hzk⟩ := (hI.keys _).1 hk
    rcases hI.other z hz with hp | hp
    · exact e z hp (by simpa using hzk)
    · rw [hzk] at hp; omega
  · rintro ⟨⟨_, b, d⟩, e⟩
    refine ⟨⟨⟨fun ha => e ((hI.keys _).2 ⟨y, ha, rfl⟩), by omega⟩, d⟩, fun z hz hzk => e ((hI.keys _).2 ⟨z, hI.ahead z hz, by simpa using hzk⟩)⟩
theorem SeenBy.push {s : Slb} {c : Int} {sn pre ks : List Int} (hI : SeenBy s c sn pre ks) (y : Int) : SeenBy s c (y :: sn) (pre ++ [y]) ((slotN s y).key :: ks) := by
  refine ⟨fun k => ⟨fun hk => ?_, fun hk => ?_⟩, fun z hz => ?_, fun z hz => ?_⟩
  · rcases List.mem_cons.1 hk with e | e
    · exact ⟨y, by simp, e.symm⟩
    · obtain ⟨z, hz, e⟩ := (hI.keys k).1 e
      exact ⟨z, List.mem_cons_of_mem _ hz, e⟩
  · obtain ⟨z, hz, e⟩ := hk
    rcases List.mem_cons.1 hz with e2 | e2
    · subst e2; rw [← e]; simp
    · exact List.mem_cons_of_mem _ ((hI.keys k).2 ⟨z, e2, e⟩)
  · rcases List.mem_append.1 hz with e | e
    · exact List.mem_cons_of_mem _ (hI.ahead z e)
    · simp at e; subst e; simp
  · rcases List.mem_cons.1 hz with e | e
    · subst e; left; simp
    · rcases hI.other z e with e | e
      · left; exact List.mem_append_left _ e
      · right; exact e
open Classical in
theorem go_good {s : Slb} (h : slotsA s = true) {c : Int} : ∀ (l sn pre ks : List Int), SeenBy s c sn pre ks → (∀ y ∈ l, 0 ≤ y ∧ y < s.slots.length) → goL s c sn pre l = if goodK s c ks l then some (l.reverse ++ sn) else none
  | [], sn, pre, ks, hI, hl => by rw [if_pos (show goodK s c ks [] from trivial)]; rfl
  | y :: l, sn, pre, ks, hI, hl => by
    obtain ⟨y0, y1⟩ := hl y (by simp)
    have hb := bad_may h hI y0 y1
    unfold goL
    by_cases hm : mayB s y c = true ∧ (slotN s y).key ∉ ks
    · rw [hb.2 hm, if_neg (by simp), go_good h l _ _ _ (hI.push y) (fun z hz => hl z (List.mem_cons_of_mem _ hz))]
      by_cases hg : goodK s c ((slotN s y).key :: ks) l
      · rw [if_pos hg, if_pos (show goodK s c ks (y :: l) from ⟨hm, hg⟩)]
        simp
      · rw [if_neg hg, if_neg (fun e : goodK s c ks (y :: l) => hg e.2)]
    · have : badB s c sn pre y = true := by
        cases hv : badB s c sn pre y
        · exact absurd (hb.1 hv) hm
        · rfl
      rw [if_pos this, if_neg (fun e : goodK s c ks (y :: l) => hm e.1)]
theorem keysR_mem (s : Slb) : ∀ (l seen : List Int) (k : Int), k ∈ keysR s seen l ↔ k ∈ seen ∨ ∃ z ∈ l, (slotN s z).key = k
  | [], seen, k => by simp [keysR]
  | y :: l, seen, k => by
    unfold keysR
    rw [keysR_mem s l]
    simp only [List.mem_cons]
    constructor
    · rintro ((e | e) | ⟨z, hz, e⟩)
      · exact .inr ⟨y, .inl rfl, e.symm⟩
      · exact .inl e
      · exact .inr ⟨z, .inr hz, e⟩
    · rintro (e | ⟨z, hz | hz, e⟩)
      · exact .inl (.inr e)
      · subst hz; exact .inl (.inl e.symm)
      · exact .inr ⟨z, hz, e⟩
theorem good_mod {s : Slb} {c : Int} : ∀ {seen l : List Int}, goodK s c seen l → ∀ y ∈ l, (slotN s y).key.tmod s.heads.length = c
  | seen, [], _, y, hy => by simp at hy
  | seen, z :: l, h, y, hy => by
    rcases List.mem_cons.1 hy with e | e
    · subst e
      have := h.1.1
      unfold mayB at this
      simp only [Bool.and_eq_true, beq_iff_eq] at this
      exact this.2.2
    · exact good_mod h.2 y e
theorem SeenBy.next {s : Slb} {c : Nat} {sn ks l : List Int} (hI : SeenBy s c sn [] ks) (hg : goodK s c ks l) : SeenBy s ((c + 1 : Nat) : Int) (l.reverse ++ sn) [] (keysR s ks l) := by
  refine ⟨fun k => ?_, fun z hz => by simp at hz, fun z hz => .inr ?_⟩
  · rw [keysR_mem, hI.keys k]
    simp only [List.mem_append, List.mem_reverse]
    constructor
    · rintro (⟨z, hz, e⟩ | ⟨z, hz, e⟩)
      · exact ⟨z, .inr hz, e⟩
      · exact ⟨z, .inl hz, e⟩
    · rintro ⟨z, hz | hz, e⟩
      · exact .inr ⟨z, hz, e⟩
      · exact .inl ⟨z, hz, e⟩
  · rcases List.mem_append.1 hz with e | e
    · rw [good_mod hg z (List.mem_reverse.1 e)]; omega
    · rcases hI.other z e with e | e
      · simp at e
      · omega
theorem chains_right {s : Slb} (hA : slotsA s = true) (hL : Leads s) (hS : s.slots.length ≤ 24) : ∀ (r c : Nat) (sn ks : List Int), c + r = s.heads.length → SeenBy s c sn [] ks → chainsK s r c ks = rightC s r c sn
  | 0, c, sn, ks, _, _ => rfl
  | r + 1, c, sn, ks, hr, hI => by
    classical
    unfold chainsK rightC
    rw [run_chain hS]
    have hin : ∀ y ∈ (chainOf s c).1, 0 ≤ y ∧ y < s.slots.length := chain_in hL _ _ (by
      have := hL.heads (c : Int).toNat (by rw [Int.toNat_natCast]; omega)
      exact this)
    rw [go_good hA (chainOf s c).1 sn [] ks hI hin]
    by_cases h1 : (chainOf s c).2 = -1 - (c : Int)
    · rw [if_pos h1]
      by_cases h2 : goodK s c ks (chainOf s c).1
      · rw [if_pos ⟨h1, h2⟩, if_pos h2]
        exact chains_right hA hL hS r (c + 1) _ _ (by omega) (hI.next h2)
      · rw [if_neg (fun e => h2 e.2), if_neg h2]
    · rw [if_neg (fun e => h1 e.1), if_neg h1]
theorem chains_heads {s : Slb} : ∀ (r c : Nat) (ks : List Int), c + r = s.heads.length → chainsK s r c ks = true → ∀ i, c ≤ i → i < s.heads.length → nextB s.slots.length s.heads.length (s.heads.getD i 0) = true
  | 0, c, ks, hr, _, i, h1, h2 => by omega
  | r + 1, c, ks, hr, h, i, h1, h2 => by
    unfold chainsK at h
    cases hk : runK s c 1001 ks (s.heads.getD c 0) with
    | none => rw [hk] at h; cases h
    | some seen' =>
      rw [hk] at h
      by_cases e : i = c
      · subst e
        obtain ⟨l, q1, q2, _⟩ := run_some hk
        rw [next_in]
        unfold inB
        cases l with
        | nil =>
          have q1 : s.heads.getD i 0 = -1 - (i : Int) := q1
          simp only [Bool.or_eq_true, Bool.and_eq_true, decide_eq_true_eq]
          omega
        | cons y l =>
          obtain ⟨q1, _⟩ := q1
          have := may_in q2.1.1
          simp only [Bool.or_eq_true, Bool.and_eq_true, decide_eq_true_eq]
          omega
      · exact chains_heads r (c + 1) seen' (by omega) h i (by omega) h2
/-- a slab is right, asked by keys -/
theorem right_keys (s : Slb) : rightSl s = (sizesB s && (slotsA s && chainsK s s.heads.length 0 [])) := by
  have h0 : SeenBy s (0 : Nat) [] [] [] := ⟨fun k => by simp, fun z hz => by simp at hz, fun z hz => by simp at hz⟩
  unfold rightSl
  cases hz : sizesB s
  · rw [slotsB_no1 hz]; rfl
  · cases ha : slotsA s
    · have : slotsB s = false := by unfold slotsB; rw [hz, show s.slots.all (okS s.slots.length s.heads.length) = false from ha]; rfl
      rw [this]; rfl
    · have hS : s.slots.length ≤ 24 := by
        unfold sizesB at hz
        simp only [Bool.and_eq_true, decide_eq_true_eq] at hz
        exact hz.1.2
      cases hk : slotsB s
      · simp only [Bool.false_and, Bool.true_and]
        symm
        rw [Bool.eq_false_iff]
        intro hc
        have := chains_heads s.heads.length 0 [] (by omega) hc
        have e := slotsB_yes hz (fun k hk => slotsA_get ha hk) (fun k hk => this k (by omega) hk)
        rw [hk] at e; cases e
      · simp only [Bool.true_and]
        exact (chains_right ha (slotsB_leads hk).1 hS s.heads.length 0 [] [] (by omega) h0).symm
end Go.Proofs.Ytfjgofmjhccdkaa
end
