/- Proved here: spec.l07Right and spec.WalkRight answer as the plain functions; all old memory stays (conditions: the slab's rows can be read). -/
import Derived.Test.YtfjgofmjhccdkaaAll11
import Derived.Test.YtfjgofmjhccdkaaAll22
namespace Go.Proofs.Ytfjgofmjhccdkaa
open Go.ChangeShapes Go.WideShapes Go.ChangeAt Go.RowKit
set_option linter.unusedVariables false
set_option linter.unusedSimpArgs false
set_option maxRecDepth 100000

theorem place_next {s : Slb} {c st : Int} (h : placeB s c st = true) : nextB s.slots.length s.heads.length c = true := by
  unfold placeB at h
  split at h
  · exact h
  · have hi : inB s.slots.length c = true := by
      split at h
      · exact h
      · split at h
        · rw [Bool.and_eq_true] at h; exact h.1
        · cases h
    obtain ⟨q1, q2⟩ := in_iff.1 hi
    unfold nextB
    simp
    right
    omega
theorem wk_no1 {s : Slb} {k : Wlk} (h : keyB k.key = false) : wkR s k = false := by unfold wkR; rw [h]; rfl
theorem wk_no2 {s : Slb} {k : Wlk} (h : placeB s k.cur k.stage = false) : wkR s k = false := by unfold wkR; rw [h]; simp
theorem wk_no3 {s : Slb} {k : Wlk} (h : outB s k = false) : wkR s k = false := by unfold wkR; rw [h]; simp
theorem wk_no4 {s : Slb} {k : Wlk} (h : timeB k.steps = false) : wkR s k = false := by unfold wkR; rw [h]; simp
theorem place_no {s : Slb} {c st : Int} (h : placeB s c st = true → False) : placeB s c st = false := by
  cases e : placeB s c st
  · rfl
  · exact absurd e h
theorem wk_yes {s : Slb} {k : Wlk} (h1 : keyB k.key = true) (h2 : placeB s k.cur k.stage = true) (h3 : timeB k.steps = true) : wkR s k = outB s k := by
  unfold wkR; rw [h1, h2, h3]; simp
set_option maxHeartbeats 8000000 in
theorem l07Right_any (bS oS bH oH : Nat) (cS cH : Nat) (s : Slb) (k : Wlk) (w : World) (hR : SlabZ (some ⟨bS, oS, none⟩) (some ⟨bH, oH, none⟩) s w) (hr : rightSl s = true) :
    Calls Try.prog 65 #[.agg #[.slice (some ⟨bS, oS, none⟩) s.slots.length cS, .slice (some ⟨bH, oH, none⟩) s.heads.length cH], .agg #[.int .i64 k.key, .int .i64 k.cur, .int .i64 k.stage, .int .i64 k.state, .int .i64 k.slot, .int .i64 k.gen, .int .i64 k.steps]] w fun e w' => e = .returned (.bool (wkR s k)) ∧ Below w.heap.size w w' := by
  obtain ⟨key, cur, stage, state, slot, gen, steps⟩ := k
  show Calls Try.prog 65 #[.agg #[.slice (some ⟨bS, oS, none⟩) s.slots.length cS, .slice (some ⟨bH, oH, none⟩) s.heads.length cH], .agg #[.int .i64 key, .int .i64 cur, .int .i64 stage, .int .i64 state, .int .i64 slot, .int .i64 gen, .int .i64 steps]] w _
  obtain ⟨_, n1, n2, n3, n4⟩ := right_leads hr
  have HK := hidS (fun W => l06Key_any key W)
  have HN := hidS (fun W => l06Next_any (some ⟨bS, oS, none⟩) (some ⟨bH, oH, none⟩) s.slots.length cS s.heads.length cH cur W (by omega) (by omega))
  have HI := hidS (fun W => l02Is_any stage 0 2 W)
  have HJ := hidS (fun W => l02Is_any state 0 2 W)
  have HT := hidS (fun W => l02Time_any steps W)
  cases hk : keyB key
  · have E : Hid (wkR s ⟨key, cur, stage, state, slot, gen, steps⟩ = false) := hidS (wk_no1 hk)
    rw [E.out]
    clear E
    rw [hk] at HK
    clear hR hr hk
    have hGA0 : Hid (((w.alloc (.cells #[.slice (some ⟨bS, oS, none⟩) s.slots.length cS, .slice (some ⟨bH, oH, none⟩) s.heads.length cH] 26)).alloc (.cells #[.int .i64 key, .int .i64 cur, .int .i64 stage, .int .i64 state, .int .i64 slot, .int .i64 gen, .int .i64 steps] 30)).heap[w.heap.size]? = some (.cells #[.slice (some ⟨bS, oS, none⟩) s.slots.length cS, .slice (some ⟨bH, oH, none⟩) s.heads.length cH] 26)) := by
      show _ = _
      have := blk_alloc (heap_newG w (.cells #[.slice (some ⟨bS, oS, none⟩) s.slots.length cS, .slice (some ⟨bH, oH, none⟩) s.heads.length cH] 26)) (.cells #[.int .i64 key, .int .i64 cur, .int .i64 stage, .int .i64 state, .int .i64 slot, .int .i64 gen, .int .i64 steps] 30)
      simpa using this
    have hGK0 : Hid (((w.alloc (.cells #[.slice (some ⟨bS, oS, none⟩) s.slots.length cS, .slice (some ⟨bH, oH, none⟩) s.heads.length cH] 26)).alloc (.cells #[.int .i64 key, .int .i64 cur, .int .i64 stage, .int .i64 state, .int .i64 slot, .int .i64 gen, .int .i64 steps] 30)).heap[w.heap.size + 1]? = some (.cells #[.int .i64 key, .int .i64 cur, .int .i64 stage, .int .i64 state, .int .i64 slot, .int .i64 gen, .int .i64 steps] 30)) := by
      show _ = _
      have := heap_newG (w.alloc (.cells #[.slice (some ⟨bS, oS, none⟩) s.slots.length cS, .slice (some ⟨bH, oH, none⟩) s.heads.length cH] 26)) (.cells #[.int .i64 key, .int .i64 cur, .int .i64 stage, .int .i64 state, .int .i64 slot, .int .i64 gen, .int .i64 steps] 30)
      simpa using this
    have hL0 := hidS (((Below.refl w.heap.size w).alloc (Nat.le_refl _) (.cells #[.slice (some ⟨bS, oS, none⟩) s.slots.length cS, .slice (some ⟨bH, oH, none⟩) s.heads.length cH] 26)).alloc (by simp) (.cells #[.int .i64 key, .int .i64 cur, .int .i64 stage, .int .i64 state, .int .i64 slot, .int .i64 gen, .int .i64 steps] 30))
    go_enter Try.func65, Try.ntmps65
    go_wp2_with fail
    refine (HK.out _).mono ?_
    rintro _ v9 ⟨rfl, hv9⟩
    rw [hv9]
    clear hv9 v9
    go_wp2_with fail
    go_ret
    exact ⟨rfl, hL0.out⟩
  rw [hk] at HK
  cases hn : nextB s.slots.length s.heads.length cur
  · have E : Hid (wkR s ⟨key, cur, stage, state, slot, gen, steps⟩ = false) := hidS (wk_no2 (place_no fun h => by rw [place_next h] at hn; cases hn))
    rw [E.out]
    clear E
    rw [hn] at HN
    clear hR hr hn
    have hGA0 : Hid (((w.alloc (.cells #[.slice (some ⟨bS, oS, none⟩) s.slots.length cS, .slice (some ⟨bH, oH, none⟩) s.heads.length cH] 26)).alloc (.cells #[.int .i64 key, .int .i64 cur, .int .i64 stage, .int .i64 state, .int .i64 slot, .int .i64 gen, .int .i64 steps] 30)).heap[w.heap.size]? = some (.cells #[.slice (some ⟨bS, oS, none⟩) s.slots.length cS, .slice (some ⟨bH, oH, none⟩) s.heads.length cH] 26)) := by
      show _ = _
      have := blk_alloc (heap_newG w (.cells #[.slice (some ⟨bS, oS, none⟩) s.slots.length cS, .slice (some ⟨bH, oH, none⟩) s.heads.length cH] 26)) (.cells #[.int .i64 key, .int .i64 cur, .int .i64 stage, .int .i64 state, .int .i64 slot, .int .i64 gen, .int .i64 steps] 30)
      simpa using this
    have hGK0 : Hid (((w.alloc (.cells #[.slice (some ⟨bS, oS, none⟩) s.slots.length cS, .slice (some ⟨bH, oH, none⟩) s.heads.length cH] 26)).alloc (.cells #[.int .i64 key, .int .i64 cur, .int .i64 stage, .int .i64 state, .int .i64 slot, .int .i64 gen, .int .i64 steps] 30)).heap[w.heap.size + 1]? = some (.cells #[.int .i64 key, .int .i64 cur, .int .i64 stage, .int .i64 state, .int .i64 slot, .int .i64 gen, .int .i64 steps] 30)) := by
      show _ = _
      have := heap_newG (w.alloc (.cells #[.slice (some ⟨bS, oS, none⟩) s.slots.length cS, .slice (some ⟨bH, oH, none⟩) s.heads.length cH] 26)) (.cells #[.int .i64 key, .int .i64 cur, .int .i64 stage, .int .i64 state, .int .i64 slot, .int .i64 gen, .int .i64 steps] 30)
      simpa using this
    have hL0 := hidS (((Below.refl w.heap.size w).alloc (Nat.le_refl _) (.cells #[.slice (some ⟨bS, oS, none⟩) s.slots.length cS, .slice (some ⟨bH, oH, none⟩) s.heads.length cH] 26)).alloc (by simp) (.cells #[.int .i64 key, .int .i64 cur, .int .i64 stage, .int .i64 state, .int .i64 slot, .int .i64 gen, .int .i64 steps] 30))
    go_enter Try.func65, Try.ntmps65
    go_wp2_with fail
    refine (HK.out _).mono ?_
    rintro _ v9 ⟨rfl, hv9⟩
    rw [hv9]
    clear hv9 v9
    go_wp2_with fail
    refine (HN.out _).mono ?_
    rintro _ w1 ⟨rfl, hb1⟩
    have hGA1 := hidS (blk_later hGA0.out hb1)
    have hGK1 := hidS (blk_later hGK0.out hb1)
    have hL1 := hidS (hL0.out.trans (hb1.mono hL0.out.size))
    clear hb1 hL0 hGA0 hGK0
    have cA0 := blk_cell hGA1.out 0
    have cA1 := blk_cell hGA1.out 1
    simp at cA0 cA1
    have cK0 := blk_cell hGK1.out 0
    have cK1 := blk_cell hGK1.out 1
    have cK2 := blk_cell hGK1.out 2
    have cK3 := blk_cell hGK1.out 3
    have cK4 := blk_cell hGK1.out 4
    have cK5 := blk_cell hGK1.out 5
    have cK6 := blk_cell hGK1.out 6
    simp at cK0 cK1 cK2 cK3 cK4 cK5 cK6
    go_wp2_with fail
    go_ret
    exact ⟨rfl, hL1.out⟩
  rw [hn] at HN
  cases hi : (decide (0 ≤ stage) && decide (stage ≤ 2))
  · have E : Hid (wkR s ⟨key, cur, stage, state, slot, gen, steps⟩ = false) := hidS (wk_no2 (place_no fun h => by obtain ⟨_, _, p, q⟩ := place_cur h; have p' : 0 ≤ stage := p; have q' : stage ≤ 2 := q; simp [p', q'] at hi))
    rw [E.out]
    clear E
    rw [hi] at HI
    clear hR hr hi
    have hGA0 : Hid (((w.alloc (.cells #[.slice (some ⟨bS, oS, none⟩) s.slots.length cS, .slice (some ⟨bH, oH, none⟩) s.heads.length cH] 26)).alloc (.cells #[.int .i64 key, .int .i64 cur, .int .i64 stage, .int .i64 state, .int .i64 slot, .int .i64 gen, .int .i64 steps] 30)).heap[w.heap.size]? = some (.cells #[.slice (some ⟨bS, oS, none⟩) s.slots.length cS, .slice (some ⟨bH, oH, none⟩) s.heads.length cH] 26)) := by
      show _ = _
      have := blk_alloc (heap_newG w (.cells #[.slice (some ⟨bS, oS, none⟩) s.slots.length cS, .slice (some ⟨bH, oH, none⟩) s.heads.length cH] 26)) (.cells #[.int .i64 key, .int .i64 cur, .int .i64 stage, .int .i64 state, .int .i64 slot, .int .i64 gen, .int .i64 steps] 30)
      simpa using this
    have hGK0 : Hid (((w.alloc (.cells #[.slice (some ⟨bS, oS, none⟩) s.slots.length cS, .slice (some ⟨bH, oH, none⟩) s.heads.length cH] 26)).alloc (.cells #[.int .i64 key, .int .i64 cur, .int .i64 stage, .int .i64 state, .int .i64 slot, .int .i64 gen, .int .i64 steps] 30)).heap[w.heap.size + 1]? = some (.cells #[.int .i64 key, .int .i64 cur, .int .i64 stage, .int .i64 state, .int .i64 slot, .int .i64 gen, .int .i64 steps] 30)) := by
      show _ = _
      have := heap_newG (w.alloc (.cells #[.slice (some ⟨bS, oS, none⟩) s.slots.length cS, .slice (some ⟨bH, oH, none⟩) s.heads.length cH] 26)) (.cells #[.int .i64 key, .int .i64 cur, .int .i64 stage, .int .i64 state, .int .i64 slot, .int .i64 gen, .int .i64 steps] 30)
      simpa using this
    have hL0 := hidS (((Below.refl w.heap.size w).alloc (Nat.le_refl _) (.cells #[.slice (some ⟨bS, oS, none⟩) s.slots.length cS, .slice (some ⟨bH, oH, none⟩) s.heads.length cH] 26)).alloc (by simp) (.cells #[.int .i64 key, .int .i64 cur, .int .i64 stage, .int .i64 state, .int .i64 slot, .int .i64 gen, .int .i64 steps] 30))
    go_enter Try.func65, Try.ntmps65
    go_wp2_with fail
    refine (HK.out _).mono ?_
    rintro _ v9 ⟨rfl, hv9⟩
    rw [hv9]
    clear hv9 v9
    go_wp2_with fail
    refine (HN.out _).mono ?_
    rintro _ w1 ⟨rfl, hb1⟩
    have hGA1 := hidS (blk_later hGA0.out hb1)
    have hGK1 := hidS (blk_later hGK0.out hb1)
    have hL1 := hidS (hL0.out.trans (hb1.mono hL0.out.size))
    clear hb1 hL0 hGA0 hGK0
    have cA0 := blk_cell hGA1.out 0
    have cA1 := blk_cell hGA1.out 1
    simp at cA0 cA1
    have cK0 := blk_cell hGK1.out 0
    have cK1 := blk_cell hGK1.out 1
    have cK2 := blk_cell hGK1.out 2
    have cK3 := blk_cell hGK1.out 3
    have cK4 := blk_cell hGK1.out 4
    have cK5 := blk_cell hGK1.out 5
    have cK6 := blk_cell hGK1.out 6
    simp at cK0 cK1 cK2 cK3 cK4 cK5 cK6
    go_wp2_with fail
    refine (HI.out _).mono ?_
    rintro _ v9 ⟨rfl, hv9⟩
    rw [hv9]
    clear hv9 v9
    go_wp2_with fail
    go_ret
    exact ⟨rfl, hL1.out⟩
  rw [hi] at HI
  have hst : stage = 0 ∨ stage = 1 ∨ stage = 2 := by simp at hi; omega
  clear hi
  rcases hst with e | e | e
  · subst e
    have hp : placeB s cur 0 = true := place_zero hn
    cases hj : (decide (0 ≤ state) && decide (state ≤ 2))
    · have E : Hid (wkR s ⟨key, cur, 0, state, slot, gen, steps⟩ = false) := hidS (wk_no3 (by have h1 : ¬ (state = 0 ∨ state = 2) := by { intro h; rcases h with h | h <;> subst h <;> simp at hj }; have h2 : ¬ state = 1 := by { intro h; subst h; simp at hj }; unfold outB; show (if state = 0 ∨ state = 2 then _ else if state = 1 then _ else false) = false; rw [if_neg h1, if_neg h2]))
      rw [E.out]
      clear E
      rw [hj] at HJ
      clear hR hr hj
      have hGA0 : Hid (((w.alloc (.cells #[.slice (some ⟨bS, oS, none⟩) s.slots.length cS, .slice (some ⟨bH, oH, none⟩) s.heads.length cH] 26)).alloc (.cells #[.int .i64 key, .int .i64 cur, .int .i64 0, .int .i64 state, .int .i64 slot, .int .i64 gen, .int .i64 steps] 30)).heap[w.heap.size]? = some (.cells #[.slice (some ⟨bS, oS, none⟩) s.slots.length cS, .slice (some ⟨bH, oH, none⟩) s.heads.length cH] 26)) := by
        show _ = _
        have := blk_alloc (heap_newG w (.cells #[.slice (some ⟨bS, oS, none⟩) s.slots.length cS, .slice (some ⟨bH, oH, none⟩) s.heads.length cH] 26)) (.cells #[.int .i64 key, .int .i64 cur, .int .i64 0, .int .i64 state, .int .i64 slot, .int .i64 gen, .int .i64 steps] 30)
        simpa using this
      have hGK0 : Hid (((w.alloc (.cells #[.slice (some ⟨bS, oS, none⟩) s.slots.length cS, .slice (some ⟨bH, oH, none⟩) s.heads.length cH] 26)).alloc (.cells #[.int .i64 key, .int .i64 cur, .int .i64 0, .int .i64 state, .int .i64 slot, .int .i64 gen, .int .i64 steps] 30)).heap[w.heap.size + 1]? = some (.cells #[.int .i64 key, .int .i64 cur, .int .i64 0, .int .i64 state, .int .i64 slot, .int .i64 gen, .int .i64 steps] 30)) := by
        show _ = _
        have := heap_newG (w.alloc (.cells #[.slice (some ⟨bS, oS, none⟩) s.slots.length cS, .slice (some ⟨bH, oH, none⟩) s.heads.length cH] 26)) (.cells #[.int .i64 key, .int .i64 cur, .int .i64 0, .int .i64 state, .int .i64 slot, .int .i64 gen, .int .i64 steps] 30)
        simpa using this
      have hL0 := hidS (((Below.refl w.heap.size w).alloc (Nat.le_refl _) (.cells #[.slice (some ⟨bS, oS, none⟩) s.slots.length cS, .slice (some ⟨bH, oH, none⟩) s.heads.length cH] 26)).alloc (by simp) (.cells #[.int .i64 key, .int .i64 cur, .int .i64 0, .int .i64 state, .int .i64 slot, .int .i64 gen, .int .i64 steps] 30))
      go_enter Try.func65, Try.ntmps65
      go_wp2_with fail
      refine (HK.out _).mono ?_
      rintro _ v9 ⟨rfl, hv9⟩
      rw [hv9]
      clear hv9 v9
      go_wp2_with fail
      refine (HN.out _).mono ?_
      rintro _ w1 ⟨rfl, hb1⟩
      have hGA1 := hidS (blk_later hGA0.out hb1)
      have hGK1 := hidS (blk_later hGK0.out hb1)
      have hL1 := hidS (hL0.out.trans (hb1.mono hL0.out.size))
      clear hb1 hL0 hGA0 hGK0
      have cA0 := blk_cell hGA1.out 0
      have cA1 := blk_cell hGA1.out 1
      simp at cA0 cA1
      have cK0 := blk_cell hGK1.out 0
      have cK1 := blk_cell hGK1.out 1
      have cK2 := blk_cell hGK1.out 2
      have cK3 := blk_cell hGK1.out 3
      have cK4 := blk_cell hGK1.out 4
      have cK5 := blk_cell hGK1.out 5
      have cK6 := blk_cell hGK1.out 6
      simp at cK0 cK1 cK2 cK3 cK4 cK5 cK6
      go_wp2_with fail
      refine (HI.out _).mono ?_
      rintro _ v9 ⟨rfl, hv9⟩
      rw [hv9]
      clear hv9 v9
      go_wp2_with fail
      refine (HJ.out _).mono ?_
      rintro _ v9 ⟨rfl, hv9⟩
      rw [hv9]
      clear hv9 v9
      go_wp2_with fail
      go_ret
      exact ⟨rfl, hL1.out⟩
    rw [hj] at HJ
    have hsr : 0 ≤ state ∧ state ≤ 2 := by simpa using hj
    clear hj
    cases ht : timeB steps
    · have E : Hid (wkR s ⟨key, cur, 0, state, slot, gen, steps⟩ = false) := hidS (wk_no4 ht)
      rw [E.out]
      clear E
      rw [ht] at HT
      clear hR hr ht
      have hGA0 : Hid (((w.alloc (.cells #[.slice (some ⟨bS, oS, none⟩) s.slots.length cS, .slice (some ⟨bH, oH, none⟩) s.heads.length cH] 26)).alloc (.cells #[.int .i64 key, .int .i64 cur, .int .i64 0, .int .i64 state, .int .i64 slot, .int .i64 gen, .int .i64 steps] 30)).heap[w.heap.size]? = some (.cells #[.slice (some ⟨bS, oS, none⟩) s.slots.length cS, .slice (some ⟨bH, oH, none⟩) s.heads.length cH] 26)) := by
        show _ = _
        have := blk_alloc (heap_newG w (.cells #[.slice (some ⟨bS, oS, none⟩) s.slots.length cS, .slice (some ⟨bH, oH, none⟩) s.heads.length cH] 26)) (.cells #[.int .i64 key, .int .i64 cur, .int .i64 0, .int .i64 state, .int .i64 slot, .int .i64 gen, .int .i64 steps] 30)
        simpa using this
      have hGK0 : Hid (((w.alloc (.cells #[.slice (some ⟨bS, oS, none⟩) s.slots.length cS, .slice (some ⟨bH, oH, none⟩) s.heads.length cH] 26)).alloc (.cells #[.int .i64 key, .int .i64 cur, .int .i64 0, .int .i64 state, .int .i64 slot, .int .i64 gen, .int .i64 steps] 30)).heap[w.heap.size + 1]? = some (.cells #[.int .i64 key, .int .i64 cur, .int .i64 0, .int .i64 state, .int .i64 slot, .int .i64 gen, .int .i64 steps] 30)) := by
        show _ = _
        have := heap_newG (w.alloc (.cells #[.slice (some ⟨bS, oS, none⟩) s.slots.length cS, .slice (some ⟨bH, oH, none⟩) s.heads.length cH] 26)) (.cells #[.int .i64 key, .int .i64 cur, .int .i64 0, .int .i64 state, .int .i64 slot, .int .i64 gen, .int .i64 steps] 30)
        simpa using this
      have hL0 := hidS (((Below.refl w.heap.size w).alloc (Nat.le_refl _) (.cells #[.slice (some ⟨bS, oS, none⟩) s.slots.length cS, .slice (some ⟨bH, oH, none⟩) s.heads.length cH] 26)).alloc (by simp) (.cells #[.int .i64 key, .int .i64 cur, .int .i64 0, .int .i64 state, .int .i64 slot, .int .i64 gen, .int .i64 steps] 30))
      go_enter Try.func65, Try.ntmps65
      go_wp2_with fail
      refine (HK.out _).mono ?_
      rintro _ v9 ⟨rfl, hv9⟩
      rw [hv9]
      clear hv9 v9
      go_wp2_with fail
      refine (HN.out _).mono ?_
      rintro _ w1 ⟨rfl, hb1⟩
      have hGA1 := hidS (blk_later hGA0.out hb1)
      have hGK1 := hidS (blk_later hGK0.out hb1)
      have hL1 := hidS (hL0.out.trans (hb1.mono hL0.out.size))
      clear hb1 hL0 hGA0 hGK0
      have cA0 := blk_cell hGA1.out 0
      have cA1 := blk_cell hGA1.out 1
      simp at cA0 cA1
      have cK0 := blk_cell hGK1.out 0
      have cK1 := blk_cell hGK1.out 1
      have cK2 := blk_cell hGK1.out 2
      have cK3 := blk_cell hGK1.out 3
      have cK4 := blk_cell hGK1.out 4
      have cK5 := blk_cell hGK1.out 5
      have cK6 := blk_cell hGK1.out 6
      simp at cK0 cK1 cK2 cK3 cK4 cK5 cK6
      go_wp2_with fail
      refine (HI.out _).mono ?_
      rintro _ v9 ⟨rfl, hv9⟩
      rw [hv9]
      clear hv9 v9
      go_wp2_with fail
      refine (HJ.out _).mono ?_
      rintro _ v9 ⟨rfl, hv9⟩
      rw [hv9]
      clear hv9 v9
      go_wp2_with fail
      refine (HT.out _).mono ?_
      rintro _ v9 ⟨rfl, hv9⟩
      rw [hv9]
      clear hv9 v9
      go_wp2_with fail
      go_ret
      exact ⟨rfl, hL1.out⟩
    rw [ht] at HT
    have hse : ¬ state = 1 → state = 0 ∨ state = 2 := fun _ => by omega
    rw [wk_yes (k := ⟨key, cur, 0, state, slot, gen, steps⟩) hk hp ht]
    clear hp hr hn hk ht hR
    by_cases s1 : state = 1
    · subst s1
      have E : Hid (outB s ⟨key, cur, 0, 1, slot, gen, steps⟩ = (inB s.slots.length slot && timeB gen)) := by show _ = _; unfold outB; rw [if_neg (by simp), if_pos rfl]
      rw [E.out]
      clear E
      have HA := hidS (fun W => l02Is_any slot 0 ((s.slots.length : Int) - 1) W)
      have HB := hidS (fun W => l02Time_any gen W)
      have EI : Hid ((decide (0 ≤ slot) && decide (slot ≤ (s.slots.length : Int) - 1)) = inB s.slots.length slot) := by
        show _ = _
        unfold inB
        by_cases a : slot < (s.slots.length : Int)
        · rw [decide_eq_true a, decide_eq_true (by omega : slot ≤ (s.slots.length : Int) - 1)]
        · rw [decide_eq_false a, decide_eq_false (by omega : ¬ slot ≤ (s.slots.length : Int) - 1)]
      rw [EI.out] at HA
      clear EI
      generalize inB s.slots.length slot = q1 at HA ⊢
      generalize timeB gen = q2 at HB ⊢
      cases q1
      · have hGA0 : Hid (((w.alloc (.cells #[.slice (some ⟨bS, oS, none⟩) s.slots.length cS, .slice (some ⟨bH, oH, none⟩) s.heads.length cH] 26)).alloc (.cells #[.int .i64 key, .int .i64 cur, .int .i64 0, .int .i64 1, .int .i64 slot, .int .i64 gen, .int .i64 steps] 30)).heap[w.heap.size]? = some (.cells #[.slice (some ⟨bS, oS, none⟩) s.slots.length cS, .slice (some ⟨bH, oH, none⟩) s.heads.length cH] 26)) := by
          show _ = _
          have := blk_alloc (heap_newG w (.cells #[.slice (some ⟨bS, oS, none⟩) s.slots.length cS, .slice (some ⟨bH, oH, none⟩) s.heads.length cH] 26)) (.cells #[.int .i64 key, .int .i64 cur, .int .i64 0, .int .i64 1, .int .i64 slot, .int .i64 gen, .int .i64 steps] 30)
          simpa using this
        have hGK0 : Hid (((w.alloc (.cells #[.slice (some ⟨bS, oS, none⟩) s.slots.length cS, .slice (some ⟨bH, oH, none⟩) s.heads.length cH] 26)).alloc (.cells #[.int .i64 key, .int .i64 cur, .int .i64 0, .int .i64 1, .int .i64 slot, .int .i64 gen, .int .i64 steps] 30)).heap[w.heap.size + 1]? = some (.cells #[.int .i64 key, .int .i64 cur, .int .i64 0, .int .i64 1, .int .i64 slot, .int .i64 gen, .int .i64 steps] 30)) := by
          show _ = _
          have := heap_newG (w.alloc (.cells #[.slice (some ⟨bS, oS, none⟩) s.slots.length cS, .slice (some ⟨bH, oH, none⟩) s.heads.length cH] 26)) (.cells #[.int .i64 key, .int .i64 cur, .int .i64 0, .int .i64 1, .int .i64 slot, .int .i64 gen, .int .i64 steps] 30)
          simpa using this
        have hL0 := hidS (((Below.refl w.heap.size w).alloc (Nat.le_refl _) (.cells #[.slice (some ⟨bS, oS, none⟩) s.slots.length cS, .slice (some ⟨bH, oH, none⟩) s.heads.length cH] 26)).alloc (by simp) (.cells #[.int .i64 key, .int .i64 cur, .int .i64 0, .int .i64 1, .int .i64 slot, .int .i64 gen, .int .i64 steps] 30))
        go_enter Try.func65, Try.ntmps65
        go_wp2_with fail
        refine (HK.out _).mono ?_
        rintro _ v9 ⟨rfl, hv9⟩
        rw [hv9]
        clear hv9 v9
        go_wp2_with fail
        refine (HN.out _).mono ?_
        rintro _ w1 ⟨rfl, hb1⟩
        have hGA1 := hidS (blk_later hGA0.out hb1)
        have hGK1 := hidS (blk_later hGK0.out hb1)
        have hL1 := hidS (hL0.out.trans (hb1.mono hL0.out.size))
        clear hb1 hL0 hGA0 hGK0
        have cA0 := blk_cell hGA1.out 0
        have cA1 := blk_cell hGA1.out 1
        simp at cA0 cA1
        have cK0 := blk_cell hGK1.out 0
        have cK1 := blk_cell hGK1.out 1
        have cK2 := blk_cell hGK1.out 2
        have cK3 := blk_cell hGK1.out 3
        have cK4 := blk_cell hGK1.out 4
        have cK5 := blk_cell hGK1.out 5
        have cK6 := blk_cell hGK1.out 6
        simp at cK0 cK1 cK2 cK3 cK4 cK5 cK6
        go_wp2_with fail
        refine (HI.out _).mono ?_
        rintro _ v9 ⟨rfl, hv9⟩
        rw [hv9]
        clear hv9 v9
        go_wp2_with fail
        refine (HJ.out _).mono ?_
        rintro _ v9 ⟨rfl, hv9⟩
        rw [hv9]
        clear hv9 v9
        go_wp2_with fail
        refine (HT.out _).mono ?_
        rintro _ v9 ⟨rfl, hv9⟩
        rw [hv9]
        clear hv9 v9
        go_wp2_with fail
        refine (HA.out _).mono ?_
        rintro _ v9 ⟨rfl, hv9⟩
        rw [hv9]
        clear hv9 v9
        go_wp2_with fail
        go_ret
        exact ⟨by simp, hL1.out⟩
      · have hGA0 : Hid (((w.alloc (.cells #[.slice (some ⟨bS, oS, none⟩) s.slots.length cS, .slice (some ⟨bH, oH, none⟩) s.heads.length cH] 26)).alloc (.cells #[.int .i64 key, .int .i64 cur, .int .i64 0, .int .i64 1, .int .i64 slot, .int .i64 gen, .int .i64 steps] 30)).heap[w.heap.size]? = some (.cells #[.slice (some ⟨bS, oS, none⟩) s.slots.length cS, .slice (some ⟨bH, oH, none⟩) s.heads.length cH] 26)) := by
          show _ = _
          have := blk_alloc (heap_newG w (.cells #[.slice (some ⟨bS, oS, none⟩) s.slots.length cS, .slice (some ⟨bH, oH, none⟩) s.heads.length cH] 26)) (.cells #[.int .i64 key, .int .i64 cur, .int .i64 0, .int .i64 1, .int .i64 slot, .int .i64 gen, .int .i64 steps] 30)
          simpa using this
        have hGK0 : Hid (((w.alloc (.cells #[.slice (some ⟨bS, oS, none⟩) s.slots.length cS, .slice (some ⟨bH, oH, none⟩) s.heads.length cH] 26)).alloc (.cells #[.int .i64 key, .int .i64 cur, .int .i64 0, .int .i64 1, .int .i64 slot, .int .i64 gen, .int .i64 steps] 30)).heap[w.heap.size + 1]? = some (.cells #[.int .i64 key, .int .i64 cur, .int .i64 0, .int .i64 1, .int .i64 slot, .int .i64 gen, .int .i64 steps] 30)) := by
          show _ = _
          have := heap_newG (w.alloc (.cells #[.slice (some ⟨bS, oS, none⟩) s.slots.length cS, .slice (some ⟨bH, oH, none⟩) s.heads.length cH] 26)) (.cells #[.int .i64 key, .int .i64 cur, .int .i64 0, .int .i64 1, .int .i64 slot, .int .i64 gen, .int .i64 steps] 30)
          simpa using this
        have hL0 := hidS (((Below.refl w.heap.size w).alloc (Nat.le_refl _) (.cells #[.slice (some ⟨bS, oS, none⟩) s.slots.length cS, .slice (some ⟨bH, oH, none⟩) s.heads.length cH] 26)).alloc (by simp) (.cells #[.int .i64 key, .int .i64 cur, .int .i64 0, .int .i64 1, .int .i64 slot, .int .i64 gen, .int .i64 steps] 30))
        go_enter Try.func65, Try.ntmps65
        go_wp2_with fail
        refine (HK.out _).mono ?_
        rintro _ v9 ⟨rfl, hv9⟩
        rw [hv9]
        clear hv9 v9
        go_wp2_with fail
        refine (HN.out _).mono ?_
        rintro _ w1 ⟨rfl, hb1⟩
        have hGA1 := hidS (blk_later hGA0.out hb1)
        have hGK1 := hidS (blk_later hGK0.out hb1)
        have hL1 := hidS (hL0.out.trans (hb1.mono hL0.out.size))
        clear hb1 hL0 hGA0 hGK0
        have cA0 := blk_cell hGA1.out 0
        have cA1 := blk_cell hGA1.out 1
        simp at cA0 cA1
        have cK0 := blk_cell hGK1.out 0
        have cK1 := blk_cell hGK1.out 1
        have cK2 := blk_cell hGK1.out 2
        have cK3 := blk_cell hGK1.out 3
        have cK4 := blk_cell hGK1.out 4
        have cK5 := blk_cell hGK1.out 5
        have cK6 := blk_cell hGK1.out 6
        simp at cK0 cK1 cK2 cK3 cK4 cK5 cK6
        go_wp2_with fail
        refine (HI.out _).mono ?_
        rintro _ v9 ⟨rfl, hv9⟩
        rw [hv9]
        clear hv9 v9
        go_wp2_with fail
        refine (HJ.out _).mono ?_
        rintro _ v9 ⟨rfl, hv9⟩
        rw [hv9]
        clear hv9 v9
        go_wp2_with fail
        refine (HT.out _).mono ?_
        rintro _ v9 ⟨rfl, hv9⟩
        rw [hv9]
        clear hv9 v9
        go_wp2_with fail
        refine (HA.out _).mono ?_
        rintro _ v9 ⟨rfl, hv9⟩
        rw [hv9]
        clear hv9 v9
        go_wp2_with fail
        refine (HB.out _).mono ?_
        rintro _ v9 ⟨rfl, hv9⟩
        rw [hv9]
        clear hv9 v9
        go_wp2_with fail
        go_ret
        exact ⟨by simp, hL1.out⟩
    have bs : (state == 1) = false := beq_eq_false_iff_ne.2 s1
    have E : Hid (outB s ⟨key, cur, 0, state, slot, gen, steps⟩ = (decide (slot = 0) && decide (gen = 0))) := by show _ = _; unfold outB; rw [if_pos (hse s1)]
    rw [E.out]
    clear E
    by_cases z : slot = 0
    · subst z
      have E : Hid ((decide ((0 : Int) = 0) && decide (gen = 0)) = (gen == 0)) := by show _ = _; by_cases h : gen = 0 <;> simp [h]
      rw [E.out]
      clear E
      have hGA0 : Hid (((w.alloc (.cells #[.slice (some ⟨bS, oS, none⟩) s.slots.length cS, .slice (some ⟨bH, oH, none⟩) s.heads.length cH] 26)).alloc (.cells #[.int .i64 key, .int .i64 cur, .int .i64 0, .int .i64 state, .int .i64 0, .int .i64 gen, .int .i64 steps] 30)).heap[w.heap.size]? = some (.cells #[.slice (some ⟨bS, oS, none⟩) s.slots.length cS, .slice (some ⟨bH, oH, none⟩) s.heads.length cH] 26)) := by
        show _ = _
        have := blk_alloc (heap_newG w (.cells #[.slice (some ⟨bS, oS, none⟩) s.slots.length cS, .slice (some ⟨bH, oH, none⟩) s.heads.length cH] 26)) (.cells #[.int .i64 key, .int .i64 cur, .int .i64 0, .int .i64 state, .int .i64 0, .int .i64 gen, .int .i64 steps] 30)
        simpa using this
      have hGK0 : Hid (((w.alloc (.cells #[.slice (some ⟨bS, oS, none⟩) s.slots.length cS, .slice (some ⟨bH, oH, none⟩) s.heads.length cH] 26)).alloc (.cells #[.int .i64 key, .int .i64 cur, .int .i64 0, .int .i64 state, .int .i64 0, .int .i64 gen, .int .i64 steps] 30)).heap[w.heap.size + 1]? = some (.cells #[.int .i64 key, .int .i64 cur, .int .i64 0, .int .i64 state, .int .i64 0, .int .i64 gen, .int .i64 steps] 30)) := by
        show _ = _
        have := heap_newG (w.alloc (.cells #[.slice (some ⟨bS, oS, none⟩) s.slots.length cS, .slice (some ⟨bH, oH, none⟩) s.heads.length cH] 26)) (.cells #[.int .i64 key, .int .i64 cur, .int .i64 0, .int .i64 state, .int .i64 0, .int .i64 gen, .int .i64 steps] 30)
        simpa using this
      have hL0 := hidS (((Below.refl w.heap.size w).alloc (Nat.le_refl _) (.cells #[.slice (some ⟨bS, oS, none⟩) s.slots.length cS, .slice (some ⟨bH, oH, none⟩) s.heads.length cH] 26)).alloc (by simp) (.cells #[.int .i64 key, .int .i64 cur, .int .i64 0, .int .i64 state, .int .i64 0, .int .i64 gen, .int .i64 steps] 30))
      go_enter Try.func65, Try.ntmps65
      go_wp2_with fail
      refine (HK.out _).mono ?_
      rintro _ v9 ⟨rfl, hv9⟩
      rw [hv9]
      clear hv9 v9
      go_wp2_with fail
      refine (HN.out _).mono ?_
      rintro _ w1 ⟨rfl, hb1⟩
      have hGA1 := hidS (blk_later hGA0.out hb1)
      have hGK1 := hidS (blk_later hGK0.out hb1)
      have hL1 := hidS (hL0.out.trans (hb1.mono hL0.out.size))
      clear hb1 hL0 hGA0 hGK0
      have cA0 := blk_cell hGA1.out 0
      have cA1 := blk_cell hGA1.out 1
      simp at cA0 cA1
      have cK0 := blk_cell hGK1.out 0
      have cK1 := blk_cell hGK1.out 1
      have cK2 := blk_cell hGK1.out 2
      have cK3 := blk_cell hGK1.out 3
      have cK4 := blk_cell hGK1.out 4
      have cK5 := blk_cell hGK1.out 5
      have cK6 := blk_cell hGK1.out 6
      simp at cK0 cK1 cK2 cK3 cK4 cK5 cK6
      go_wp2_with fail
      refine (HI.out _).mono ?_
      rintro _ v9 ⟨rfl, hv9⟩
      rw [hv9]
      clear hv9 v9
      go_wp2_with fail
      refine (HJ.out _).mono ?_
      rintro _ v9 ⟨rfl, hv9⟩
      rw [hv9]
      clear hv9 v9
      go_wp2_with fail
      refine (HT.out _).mono ?_
      rintro _ v9 ⟨rfl, hv9⟩
      rw [hv9]
      clear hv9 v9
      go_wp2_with fail
      go_ret
      exact ⟨rfl, hL1.out⟩
    · have bz : (slot == 0) = false := beq_eq_false_iff_ne.2 z
      have E : Hid ((decide (slot = 0) && decide (gen = 0)) = false) := by show _ = _; simp [z]
      rw [E.out]
      clear E
      have hGA0 : Hid (((w.alloc (.cells #[.slice (some ⟨bS, oS, none⟩) s.slots.length cS, .slice (some ⟨bH, oH, none⟩) s.heads.length cH] 26)).alloc (.cells #[.int .i64 key, .int .i64 cur, .int .i64 0, .int .i64 state, .int .i64 slot, .int .i64 gen, .int .i64 steps] 30)).heap[w.heap.size]? = some (.cells #[.slice (some ⟨bS, oS, none⟩) s.slots.length cS, .slice (some ⟨bH, oH, none⟩) s.heads.length cH] 26)) := by
        show _ = _
        have := blk_alloc (heap_newG w (.cells #[.slice (some ⟨bS, oS, none⟩) s.slots.length cS, .slice (some ⟨bH, oH, none⟩) s.heads.length cH] 26)) (.cells #[.int .i64 key, .int .i64 cur, .int .i64 0, .int .i64 state, .int .i64 slot, .int .i64 gen, .int .i64 steps] 30)
        simpa using this
      have hGK0 : Hid (((w.alloc (.cells #[.slice (some ⟨bS, oS, none⟩) s.slots.length cS, .slice (some ⟨bH, oH, none⟩) s.heads.length cH] 26)).alloc (.cells #[.int .i64 key, .int .i64 cur, .int .i64 0, .int .i64 state, .int .i64 slot, .int .i64 gen, .int .i64 steps] 30)).heap[w.heap.size + 1]? = some (.cells #[.int .i64 key, .int .i64 cur, .int .i64 0, .int .i64 state, .int .i64 slot, .int .i64 gen, .int .i64 steps] 30)) := by
        show _ = _
        have := heap_newG (w.alloc (.cells #[.slice (some ⟨bS, oS, none⟩) s.slots.length cS, .slice (some ⟨bH, oH, none⟩) s.heads.length cH] 26)) (.cells #[.int .i64 key, .int .i64 cur, .int .i64 0, .int .i64 state, .int .i64 slot, .int .i64 gen, .int .i64 steps] 30)
        simpa using this
      have hL0 := hidS (((Below.refl w.heap.size w).alloc (Nat.le_refl _) (.cells #[.slice (some ⟨bS, oS, none⟩) s.slots.length cS, .slice (some ⟨bH, oH, none⟩) s.heads.length cH] 26)).alloc (by simp) (.cells #[.int .i64 key, .int .i64 cur, .int .i64 0, .int .i64 state, .int .i64 slot, .int .i64 gen, .int .i64 steps] 30))
      go_enter Try.func65, Try.ntmps65
      go_wp2_with fail
      refine (HK.out _).mono ?_
      rintro _ v9 ⟨rfl, hv9⟩
      rw [hv9]
      clear hv9 v9
      go_wp2_with fail
      refine (HN.out _).mono ?_
      rintro _ w1 ⟨rfl, hb1⟩
      have hGA1 := hidS (blk_later hGA0.out hb1)
      have hGK1 := hidS (blk_later hGK0.out hb1)
      have hL1 := hidS (hL0.out.trans (hb1.mono hL0.out.size))
      clear hb1 hL0 hGA0 hGK0
      have cA0 := blk_cell hGA1.out 0
      have cA1 := blk_cell hGA1.out 1
      simp at cA0 cA1
      have cK0 := blk_cell hGK1.out 0
      have cK1 := blk_cell hGK1.out 1
      have cK2 := blk_cell hGK1.out 2
      have cK3 := blk_cell hGK1.out 3
      have cK4 := blk_cell hGK1.out 4
      have cK5 := blk_cell hGK1.out 5
      have cK6 := blk_cell hGK1.out 6
      simp at cK0 cK1 cK2 cK3 cK4 cK5 cK6
      go_wp2_with fail
      refine (HI.out _).mono ?_
      rintro _ v9 ⟨rfl, hv9⟩
      rw [hv9]
      clear hv9 v9
      go_wp2_with fail
      refine (HJ.out _).mono ?_
      rintro _ v9 ⟨rfl, hv9⟩
      rw [hv9]
      clear hv9 v9
      go_wp2_with fail
      refine (HT.out _).mono ?_
      rintro _ v9 ⟨rfl, hv9⟩
      rw [hv9]
      clear hv9 v9
      go_wp2_with fail
      go_ret
      exact ⟨rfl, hL1.out⟩
  · subst e
    by_cases hc : cur < 0
    · have E : Hid (wkR s ⟨key, cur, 1, state, slot, gen, steps⟩ = false) := hidS (wk_no2 (place_no fun h => by have := ((place_cur h).1 hc).1; cases this))
      rw [E.out]
      clear E
      clear hR hr
      have hGA0 : Hid (((w.alloc (.cells #[.slice (some ⟨bS, oS, none⟩) s.slots.length cS, .slice (some ⟨bH, oH, none⟩) s.heads.length cH] 26)).alloc (.cells #[.int .i64 key, .int .i64 cur, .int .i64 1, .int .i64 state, .int .i64 slot, .int .i64 gen, .int .i64 steps] 30)).heap[w.heap.size]? = some (.cells #[.slice (some ⟨bS, oS, none⟩) s.slots.length cS, .slice (some ⟨bH, oH, none⟩) s.heads.length cH] 26)) := by
        show _ = _
        have := blk_alloc (heap_newG w (.cells #[.slice (some ⟨bS, oS, none⟩) s.slots.length cS, .slice (some ⟨bH, oH, none⟩) s.heads.length cH] 26)) (.cells #[.int .i64 key, .int .i64 cur, .int .i64 1, .int .i64 state, .int .i64 slot, .int .i64 gen, .int .i64 steps] 30)
        simpa using this
      have hGK0 : Hid (((w.alloc (.cells #[.slice (some ⟨bS, oS, none⟩) s.slots.length cS, .slice (some ⟨bH, oH, none⟩) s.heads.length cH] 26)).alloc (.cells #[.int .i64 key, .int .i64 cur, .int .i64 1, .int .i64 state, .int .i64 slot, .int .i64 gen, .int .i64 steps] 30)).heap[w.heap.size + 1]? = some (.cells #[.int .i64 key, .int .i64 cur, .int .i64 1, .int .i64 state, .int .i64 slot, .int .i64 gen, .int .i64 steps] 30)) := by
        show _ = _
        have := heap_newG (w.alloc (.cells #[.slice (some ⟨bS, oS, none⟩) s.slots.length cS, .slice (some ⟨bH, oH, none⟩) s.heads.length cH] 26)) (.cells #[.int .i64 key, .int .i64 cur, .int .i64 1, .int .i64 state, .int .i64 slot, .int .i64 gen, .int .i64 steps] 30)
        simpa using this
      have hL0 := hidS (((Below.refl w.heap.size w).alloc (Nat.le_refl _) (.cells #[.slice (some ⟨bS, oS, none⟩) s.slots.length cS, .slice (some ⟨bH, oH, none⟩) s.heads.length cH] 26)).alloc (by simp) (.cells #[.int .i64 key, .int .i64 cur, .int .i64 1, .int .i64 state, .int .i64 slot, .int .i64 gen, .int .i64 steps] 30))
      go_enter Try.func65, Try.ntmps65
      go_wp2_with fail
      refine (HK.out _).mono ?_
      rintro _ v9 ⟨rfl, hv9⟩
      rw [hv9]
      clear hv9 v9
      go_wp2_with fail
      refine (HN.out _).mono ?_
      rintro _ w1 ⟨rfl, hb1⟩
      have hGA1 := hidS (blk_later hGA0.out hb1)
      have hGK1 := hidS (blk_later hGK0.out hb1)
      have hL1 := hidS (hL0.out.trans (hb1.mono hL0.out.size))
      clear hb1 hL0 hGA0 hGK0
      have cA0 := blk_cell hGA1.out 0
      have cA1 := blk_cell hGA1.out 1
      simp at cA0 cA1
      have cK0 := blk_cell hGK1.out 0
      have cK1 := blk_cell hGK1.out 1
      have cK2 := blk_cell hGK1.out 2
      have cK3 := blk_cell hGK1.out 3
      have cK4 := blk_cell hGK1.out 4
      have cK5 := blk_cell hGK1.out 5
      have cK6 := blk_cell hGK1.out 6
      simp at cK0 cK1 cK2 cK3 cK4 cK5 cK6
      go_wp2_with fail
      refine (HI.out _).mono ?_
      rintro _ v9 ⟨rfl, hv9⟩
      rw [hv9]
      clear hv9 v9
      go_wp2_with fail
      go_ret
      exact ⟨rfl, hL1.out⟩
    have hcn : nextB s.slots.length s.heads.length cur = true := hn
    have hci : inB s.slots.length cur = true := in_iff.2 (by unfold nextB endB at hn; simp at hn; omega)
    clear hn
    obtain ⟨C, rfl, hC⟩ : ∃ C : Nat, cur = (C : Int) ∧ C < s.slots.length := by
      obtain ⟨a, b⟩ := in_iff.1 hci; exact ⟨cur.toNat, by omega, by omega⟩
    have hCC : (0 : Int) ≤ (C : Int) ∧ (C : Int) < (s.slots.length : Int) := by omega
    have hc0 : ¬ (C : Int) < 0 := by omega
    cases hj : (decide (0 ≤ state) && decide (state ≤ 2))
    · have E : Hid (wkR s ⟨key, (C : Int), 1, state, slot, gen, steps⟩ = false) := hidS (wk_no3 (by have h1 : ¬ (state = 0 ∨ state = 2) := by { intro h; rcases h with h | h <;> subst h <;> simp at hj }; have h2 : ¬ state = 1 := by { intro h; subst h; simp at hj }; unfold outB; show (if state = 0 ∨ state = 2 then _ else if state = 1 then _ else false) = false; rw [if_neg h1, if_neg h2]))
      rw [E.out]
      clear E
      rw [hj] at HJ
      clear hR hr hj
      have hGA0 : Hid (((w.alloc (.cells #[.slice (some ⟨bS, oS, none⟩) s.slots.length cS, .slice (some ⟨bH, oH, none⟩) s.heads.length cH] 26)).alloc (.cells #[.int .i64 key, .int .i64 (C : Int), .int .i64 1, .int .i64 state, .int .i64 slot, .int .i64 gen, .int .i64 steps] 30)).heap[w.heap.size]? = some (.cells #[.slice (some ⟨bS, oS, none⟩) s.slots.length cS, .slice (some ⟨bH, oH, none⟩) s.heads.length cH] 26)) := by
        show _ = _
        have := blk_alloc (heap_newG w (.cells #[.slice (some ⟨bS, oS, none⟩) s.slots.length cS, .slice (some ⟨bH, oH, none⟩) s.heads.length cH] 26)) (.cells #[.int .i64 key, .int .i64 (C : Int), .int .i64 1, .int .i64 state, .int .i64 slot, .int .i64 gen, .int .i64 steps] 30)
        simpa using this
      have hGK0 : Hid (((w.alloc (.cells #[.slice (some ⟨bS, oS, none⟩) s.slots.length cS, .slice (some ⟨bH, oH, none⟩) s.heads.length cH] 26)).alloc (.cells #[.int .i64 key, .int .i64 (C : Int), .int .i64 1, .int .i64 state, .int .i64 slot, .int .i64 gen, .int .i64 steps] 30)).heap[w.heap.size + 1]? = some (.cells #[.int .i64 key, .int .i64 (C : Int), .int .i64 1, .int .i64 state, .int .i64 slot, .int .i64 gen, .int .i64 steps] 30)) := by
        show _ = _
        have := heap_newG (w.alloc (.cells #[.slice (some ⟨bS, oS, none⟩) s.slots.length cS, .slice (some ⟨bH, oH, none⟩) s.heads.length cH] 26)) (.cells #[.int .i64 key, .int .i64 (C : Int), .int .i64 1, .int .i64 state, .int .i64 slot, .int .i64 gen, .int .i64 steps] 30)
        simpa using this
      have hL0 := hidS (((Below.refl w.heap.size w).alloc (Nat.le_refl _) (.cells #[.slice (some ⟨bS, oS, none⟩) s.slots.length cS, .slice (some ⟨bH, oH, none⟩) s.heads.length cH] 26)).alloc (by simp) (.cells #[.int .i64 key, .int .i64 (C : Int), .int .i64 1, .int .i64 state, .int .i64 slot, .int .i64 gen, .int .i64 steps] 30))
      go_enter Try.func65, Try.ntmps65
      go_wp2_with fail
      refine (HK.out _).mono ?_
      rintro _ v9 ⟨rfl, hv9⟩
      rw [hv9]
      clear hv9 v9
      go_wp2_with fail
      refine (HN.out _).mono ?_
      rintro _ w1 ⟨rfl, hb1⟩
      have hGA1 := hidS (blk_later hGA0.out hb1)
      have hGK1 := hidS (blk_later hGK0.out hb1)
      have hL1 := hidS (hL0.out.trans (hb1.mono hL0.out.size))
      clear hb1 hL0 hGA0 hGK0
      have cA0 := blk_cell hGA1.out 0
      have cA1 := blk_cell hGA1.out 1
      simp at cA0 cA1
      have cK0 := blk_cell hGK1.out 0
      have cK1 := blk_cell hGK1.out 1
      have cK2 := blk_cell hGK1.out 2
      have cK3 := blk_cell hGK1.out 3
      have cK4 := blk_cell hGK1.out 4
      have cK5 := blk_cell hGK1.out 5
      have cK6 := blk_cell hGK1.out 6
      simp at cK0 cK1 cK2 cK3 cK4 cK5 cK6
      go_wp2_with fail
      refine (HI.out _).mono ?_
      rintro _ v9 ⟨rfl, hv9⟩
      rw [hv9]
      clear hv9 v9
      go_wp2_with fail
      refine (HJ.out _).mono ?_
      rintro _ v9 ⟨rfl, hv9⟩
      rw [hv9]
      clear hv9 v9
      go_wp2_with fail
      go_ret
      exact ⟨rfl, hL1.out⟩
    rw [hj] at HJ
    have hsr : 0 ≤ state ∧ state ≤ 2 := by simpa using hj
    clear hj
    cases ht : timeB steps
    · have E : Hid (wkR s ⟨key, (C : Int), 1, state, slot, gen, steps⟩ = false) := hidS (wk_no4 ht)
      rw [E.out]
      clear E
      rw [ht] at HT
      clear hR hr ht
      have hGA0 : Hid (((w.alloc (.cells #[.slice (some ⟨bS, oS, none⟩) s.slots.length cS, .slice (some ⟨bH, oH, none⟩) s.heads.length cH] 26)).alloc (.cells #[.int .i64 key, .int .i64 (C : Int), .int .i64 1, .int .i64 state, .int .i64 slot, .int .i64 gen, .int .i64 steps] 30)).heap[w.heap.size]? = some (.cells #[.slice (some ⟨bS, oS, none⟩) s.slots.length cS, .slice (some ⟨bH, oH, none⟩) s.heads.length cH] 26)) := by
        show _ = _
        have := blk_alloc (heap_newG w (.cells #[.slice (some ⟨bS, oS, none⟩) s.slots.length cS, .slice (some ⟨bH, oH, none⟩) s.heads.length cH] 26)) (.cells #[.int .i64 key, .int .i64 (C : Int), .int .i64 1, .int .i64 state, .int .i64 slot, .int .i64 gen, .int .i64 steps] 30)
        simpa using this
      have hGK0 : Hid (((w.alloc (.cells #[.slice (some ⟨bS, oS, none⟩) s.slots.length cS, .slice (some ⟨bH, oH, none⟩) s.heads.length cH] 26)).alloc (.cells #[.int .i64 key, .int .i64 (C : Int), .int .i64 1, .int .i64 state, .int .i64 slot, .int .i64 gen, .int .i64 steps] 30)).heap[w.heap.size + 1]? = some (.cells #[.int .i64 key, .int .i64 (C : Int), .int .i64 1, .int .i64 state, .int .i64 slot, .int .i64 gen, .int .i64 steps] 30)) := by
        show _ = _
        have := heap_newG (w.alloc (.cells #[.slice (some ⟨bS, oS, none⟩) s.slots.length cS, .slice (some ⟨bH, oH, none⟩) s.heads.length cH] 26)) (.cells #[.int .i64 key, .int .i64 (C : Int), .int .i64 1, .int .i64 state, .int .i64 slot, .int .i64 gen, .int .i64 steps] 30)
        simpa using this
      have hL0 := hidS (((Below.refl w.heap.size w).alloc (Nat.le_refl _) (.cells #[.slice (some ⟨bS, oS, none⟩) s.slots.length cS, .slice (some ⟨bH, oH, none⟩) s.heads.length cH] 26)).alloc (by simp) (.cells #[.int .i64 key, .int .i64 (C : Int), .int .i64 1, .int .i64 state, .int .i64 slot, .int .i64 gen, .int .i64 steps] 30))
      go_enter Try.func65, Try.ntmps65
      go_wp2_with fail
      refine (HK.out _).mono ?_
      rintro _ v9 ⟨rfl, hv9⟩
      rw [hv9]
      clear hv9 v9
      go_wp2_with fail
      refine (HN.out _).mono ?_
      rintro _ w1 ⟨rfl, hb1⟩
      have hGA1 := hidS (blk_later hGA0.out hb1)
      have hGK1 := hidS (blk_later hGK0.out hb1)
      have hL1 := hidS (hL0.out.trans (hb1.mono hL0.out.size))
      clear hb1 hL0 hGA0 hGK0
      have cA0 := blk_cell hGA1.out 0
      have cA1 := blk_cell hGA1.out 1
      simp at cA0 cA1
      have cK0 := blk_cell hGK1.out 0
      have cK1 := blk_cell hGK1.out 1
      have cK2 := blk_cell hGK1.out 2
      have cK3 := blk_cell hGK1.out 3
      have cK4 := blk_cell hGK1.out 4
      have cK5 := blk_cell hGK1.out 5
      have cK6 := blk_cell hGK1.out 6
      simp at cK0 cK1 cK2 cK3 cK4 cK5 cK6
      go_wp2_with fail
      refine (HI.out _).mono ?_
      rintro _ v9 ⟨rfl, hv9⟩
      rw [hv9]
      clear hv9 v9
      go_wp2_with fail
      refine (HJ.out _).mono ?_
      rintro _ v9 ⟨rfl, hv9⟩
      rw [hv9]
      clear hv9 v9
      go_wp2_with fail
      refine (HT.out _).mono ?_
      rintro _ v9 ⟨rfl, hv9⟩
      rw [hv9]
      clear hv9 v9
      go_wp2_with fail
      go_ret
      exact ⟨rfl, hL1.out⟩
    rw [ht] at HT
    have hse : ¬ state = 1 → state = 0 ∨ state = 2 := fun _ => by omega
    have hp : placeB s (C : Int) 1 = true := by unfold placeB; rw [if_neg (by decide), if_pos rfl]; exact hci
    rw [wk_yes (k := ⟨key, (C : Int), 1, state, slot, gen, steps⟩) hk hp ht]
    clear hp hr hcn hci hk ht hR
    by_cases s1 : state = 1
    · subst s1
      have E : Hid (outB s ⟨key, (C : Int), 1, 1, slot, gen, steps⟩ = (inB s.slots.length slot && timeB gen)) := by show _ = _; unfold outB; rw [if_neg (by simp), if_pos rfl]
      rw [E.out]
      clear E
      have HA := hidS (fun W => l02Is_any slot 0 ((s.slots.length : Int) - 1) W)
      have HB := hidS (fun W => l02Time_any gen W)
      have EI : Hid ((decide (0 ≤ slot) && decide (slot ≤ (s.slots.length : Int) - 1)) = inB s.slots.length slot) := by
        show _ = _
        unfold inB
        by_cases a : slot < (s.slots.length : Int)
        · rw [decide_eq_true a, decide_eq_true (by omega : slot ≤ (s.slots.length : Int) - 1)]
        · rw [decide_eq_false a, decide_eq_false (by omega : ¬ slot ≤ (s.slots.length : Int) - 1)]
      rw [EI.out] at HA
      clear EI
      generalize inB s.slots.length slot = q1 at HA ⊢
      generalize timeB gen = q2 at HB ⊢
      cases q1
      · have hGA0 : Hid (((w.alloc (.cells #[.slice (some ⟨bS, oS, none⟩) s.slots.length cS, .slice (some ⟨bH, oH, none⟩) s.heads.length cH] 26)).alloc (.cells #[.int .i64 key, .int .i64 (C : Int), .int .i64 1, .int .i64 1, .int .i64 slot, .int .i64 gen, .int .i64 steps] 30)).heap[w.heap.size]? = some (.cells #[.slice (some ⟨bS, oS, none⟩) s.slots.length cS, .slice (some ⟨bH, oH, none⟩) s.heads.length cH] 26)) := by
          show _ = _
          have := blk_alloc (heap_newG w (.cells #[.slice (some ⟨bS, oS, none⟩) s.slots.length cS, .slice (some ⟨bH, oH, none⟩) s.heads.length cH] 26)) (.cells #[.int .i64 key, .int .i64 (C : Int), .int .i64 1, .int .i64 1, .int .i64 slot, .int .i64 gen, .int .i64 steps] 30)
          simpa using this
        have hGK0 : Hid (((w.alloc (.cells #[.slice (some ⟨bS, oS, none⟩) s.slots.length cS, .slice (some ⟨bH, oH, none⟩) s.heads.length cH] 26)).alloc (.cells #[.int .i64 key, .int .i64 (C : Int), .int .i64 1, .int .i64 1, .int .i64 slot, .int .i64 gen, .int .i64 steps] 30)).heap[w.heap.size + 1]? = some (.cells #[.int .i64 key, .int .i64 (C : Int), .int .i64 1, .int .i64 1, .int .i64 slot, .int .i64 gen, .int .i64 steps] 30)) := by
          show _ = _
          have := heap_newG (w.alloc (.cells #[.slice (some ⟨bS, oS, none⟩) s.slots.length cS, .slice (some ⟨bH, oH, none⟩) s.heads.length cH] 26)) (.cells #[.int .i64 key, .int .i64 (C : Int), .int .i64 1, .int .i64 1, .int .i64 slot, .int .i64 gen, .int .i64 steps] 30)
          simpa using this
        have hL0 := hidS (((Below.refl w.heap.size w).alloc (Nat.le_refl _) (.cells #[.slice (some ⟨bS, oS, none⟩) s.slots.length cS, .slice (some ⟨bH, oH, none⟩) s.heads.length cH] 26)).alloc (by simp) (.cells #[.int .i64 key, .int .i64 (C : Int), .int .i64 1, .int .i64 1, .int .i64 slot, .int .i64 gen, .int .i64 steps] 30))
        go_enter Try.func65, Try.ntmps65
        go_wp2_with fail
        refine (HK.out _).mono ?_
        rintro _ v9 ⟨rfl, hv9⟩
        rw [hv9]
        clear hv9 v9
        go_wp2_with fail
        refine (HN.out _).mono ?_
        rintro _ w1 ⟨rfl, hb1⟩
        have hGA1 := hidS (blk_later hGA0.out hb1)
        have hGK1 := hidS (blk_later hGK0.out hb1)
        have hL1 := hidS (hL0.out.trans (hb1.mono hL0.out.size))
        clear hb1 hL0 hGA0 hGK0
        have cA0 := blk_cell hGA1.out 0
        have cA1 := blk_cell hGA1.out 1
        simp at cA0 cA1
        have cK0 := blk_cell hGK1.out 0
        have cK1 := blk_cell hGK1.out 1
        have cK2 := blk_cell hGK1.out 2
        have cK3 := blk_cell hGK1.out 3
        have cK4 := blk_cell hGK1.out 4
        have cK5 := blk_cell hGK1.out 5
        have cK6 := blk_cell hGK1.out 6
        simp at cK0 cK1 cK2 cK3 cK4 cK5 cK6
        go_wp2_with fail
        refine (HI.out _).mono ?_
        rintro _ v9 ⟨rfl, hv9⟩
        rw [hv9]
        clear hv9 v9
        go_wp2_with fail
        refine (HJ.out _).mono ?_
        rintro _ v9 ⟨rfl, hv9⟩
        rw [hv9]
        clear hv9 v9
        go_wp2_with fail
        refine (HT.out _).mono ?_
        rintro _ v9 ⟨rfl, hv9⟩
        rw [hv9]
        clear hv9 v9
        go_wp2_with fail
        refine (HA.out _).mono ?_
        rintro _ v9 ⟨rfl, hv9⟩
        rw [hv9]
        clear hv9 v9
        go_wp2_with fail
        go_ret
        exact ⟨by simp, hL1.out⟩
      · have hGA0 : Hid (((w.alloc (.cells #[.slice (some ⟨bS, oS, none⟩) s.slots.length cS, .slice (some ⟨bH, oH, none⟩) s.heads.length cH] 26)).alloc (.cells #[.int .i64 key, .int .i64 (C : Int), .int .i64 1, .int .i64 1, .int .i64 slot, .int .i64 gen, .int .i64 steps] 30)).heap[w.heap.size]? = some (.cells #[.slice (some ⟨bS, oS, none⟩) s.slots.length cS, .slice (some ⟨bH, oH, none⟩) s.heads.length cH] 26)) := by
          show _ = _
          have := blk_alloc (heap_newG w (.cells #[.slice (some ⟨bS, oS, none⟩) s.slots.length cS, .slice (some ⟨bH, oH, none⟩) s.heads.length cH] 26)) (.cells #[.int .i64 key, .int .i64 (C : Int), .int .i64 1, .int .i64 1, .int .i64 slot, .int .i64 gen, .int .i64 steps] 30)
          simpa using this
        have hGK0 : Hid (((w.alloc (.cells #[.slice (some ⟨bS, oS, none⟩) s.slots.length cS, .slice (some ⟨bH, oH, none⟩) s.heads.length cH] 26)).alloc (.cells #[.int .i64 key, .int .i64 (C : Int), .int .i64 1, .int .i64 1, .int .i64 slot, .int .i64 gen, .int .i64 steps] 30)).heap[w.heap.size + 1]? = some (.cells #[.int .i64 key, .int .i64 (C : Int), .int .i64 1, .int .i64 1, .int .i64 slot, .int .i64 gen, .int .i64 steps] 30)) := by
          show _ = _
          have := heap_newG (w.alloc (.cells #[.slice (some ⟨bS, oS, none⟩) s.slots.length cS, .slice (some ⟨bH, oH, none⟩) s.heads.length cH] 26)) (.cells #[.int .i64 key, .int .i64 (C : Int), .int .i64 1, .int .i64 1, .int .i64 slot, .int .i64 gen, .int .i64 steps] 30)
          simpa using this
        have hL0 := hidS (((Below.refl w.heap.size w).alloc (Nat.le_refl _) (.cells #[.slice (some ⟨bS, oS, none⟩) s.slots.length cS, .slice (some ⟨bH, oH, none⟩) s.heads.length cH] 26)).alloc (by simp) (.cells #[.int .i64 key, .int .i64 (C : Int), .int .i64 1, .int .i64 1, .int .i64 slot, .int .i64 gen, .int .i64 steps] 30))
        go_enter Try.func65, Try.ntmps65
        go_wp2_with fail
        refine (HK.out _).mono ?_
        rintro _ v9 ⟨rfl, hv9⟩
        rw [hv9]
        clear hv9 v9
        go_wp2_with fail
        refine (HN.out _).mono ?_
        rintro _ w1 ⟨rfl, hb1⟩
        have hGA1 := hidS (blk_later hGA0.out hb1)
        have hGK1 := hidS (blk_later hGK0.out hb1)
        have hL1 := hidS (hL0.out.trans (hb1.mono hL0.out.size))
        clear hb1 hL0 hGA0 hGK0
        have cA0 := blk_cell hGA1.out 0
        have cA1 := blk_cell hGA1.out 1
        simp at cA0 cA1
        have cK0 := blk_cell hGK1.out 0
        have cK1 := blk_cell hGK1.out 1
        have cK2 := blk_cell hGK1.out 2
        have cK3 := blk_cell hGK1.out 3
        have cK4 := blk_cell hGK1.out 4
        have cK5 := blk_cell hGK1.out 5
        have cK6 := blk_cell hGK1.out 6
        simp at cK0 cK1 cK2 cK3 cK4 cK5 cK6
        go_wp2_with fail
        refine (HI.out _).mono ?_
        rintro _ v9 ⟨rfl, hv9⟩
        rw [hv9]
        clear hv9 v9
        go_wp2_with fail
        refine (HJ.out _).mono ?_
        rintro _ v9 ⟨rfl, hv9⟩
        rw [hv9]
        clear hv9 v9
        go_wp2_with fail
        refine (HT.out _).mono ?_
        rintro _ v9 ⟨rfl, hv9⟩
        rw [hv9]
        clear hv9 v9
        go_wp2_with fail
        refine (HA.out _).mono ?_
        rintro _ v9 ⟨rfl, hv9⟩
        rw [hv9]
        clear hv9 v9
        go_wp2_with fail
        refine (HB.out _).mono ?_
        rintro _ v9 ⟨rfl, hv9⟩
        rw [hv9]
        clear hv9 v9
        go_wp2_with fail
        go_ret
        exact ⟨by simp, hL1.out⟩
    have bs : (state == 1) = false := beq_eq_false_iff_ne.2 s1
    have E : Hid (outB s ⟨key, (C : Int), 1, state, slot, gen, steps⟩ = (decide (slot = 0) && decide (gen = 0))) := by show _ = _; unfold outB; rw [if_pos (hse s1)]
    rw [E.out]
    clear E
    by_cases z : slot = 0
    · subst z
      have E : Hid ((decide ((0 : Int) = 0) && decide (gen = 0)) = (gen == 0)) := by show _ = _; by_cases h : gen = 0 <;> simp [h]
      rw [E.out]
      clear E
      have hGA0 : Hid (((w.alloc (.cells #[.slice (some ⟨bS, oS, none⟩) s.slots.length cS, .slice (some ⟨bH, oH, none⟩) s.heads.length cH] 26)).alloc (.cells #[.int .i64 key, .int .i64 (C : Int), .int .i64 1, .int .i64 state, .int .i64 0, .int .i64 gen, .int .i64 steps] 30)).heap[w.heap.size]? = some (.cells #[.slice (some ⟨bS, oS, none⟩) s.slots.length cS, .slice (some ⟨bH, oH, none⟩) s.heads.length cH] 26)) := by
        show _ = _
        have := blk_alloc (heap_newG w (.cells #[.slice (some ⟨bS, oS, none⟩) s.slots.length cS, .slice (some ⟨bH, oH, none⟩) s.heads.length cH] 26)) (.cells #[.int .i64 key, .int .i64 (C : Int), .int .i64 1, .int .i64 state, .int .i64 0, .int .i64 gen, .int .i64 steps] 30)
        simpa using this
      have hGK0 : Hid (((w.alloc (.cells #[.slice (some ⟨bS, oS, none⟩) s.slots.length cS, .slice (some ⟨bH, oH, none⟩) s.heads.length cH] 26)).alloc (.cells #[.int .i64 key, .int .i64 (C : Int), .int .i64 1, .int .i64 state, .int .i64 0, .int .i64 gen, .int .i64 steps] 30)).heap[w.heap.size + 1]? = some (.cells #[.int .i64 key, .int .i64 (C : Int), .int .i64 1, .int .i64 state, .int .i64 0, .int .i64 gen, .int .i64 steps] 30)) := by
        show _ = _
        have := heap_newG (w.alloc (.cells #[.slice (some ⟨bS, oS, none⟩) s.slots.length cS, .slice (some ⟨bH, oH, none⟩) s.heads.length cH] 26)) (.cells #[.int .i64 key, .int .i64 (C : Int), .int .i64 1, .int .i64 state, .int .i64 0, .int .i64 gen, .int .i64 steps] 30)
        simpa using this
      have hL0 := hidS (((Below.refl w.heap.size w).alloc (Nat.le_refl _) (.cells #[.slice (some ⟨bS, oS, none⟩) s.slots.length cS, .slice (some ⟨bH, oH, none⟩) s.heads.length cH] 26)).alloc (by simp) (.cells #[.int .i64 key, .int .i64 (C : Int), .int .i64 1, .int .i64 state, .int .i64 0, .int .i64 gen, .int .i64 steps] 30))
      go_enter Try.func65, Try.ntmps65
      go_wp2_with fail
      refine (HK.out _).mono ?_
      rintro _ v9 ⟨rfl, hv9⟩
      rw [hv9]
      clear hv9 v9
      go_wp2_with fail
      refine (HN.out _).mono ?_
      rintro _ w1 ⟨rfl, hb1⟩
      have hGA1 := hidS (blk_later hGA0.out hb1)
      have hGK1 := hidS (blk_later hGK0.out hb1)
      have hL1 := hidS (hL0.out.trans (hb1.mono hL0.out.size))
      clear hb1 hL0 hGA0 hGK0
      have cA0 := blk_cell hGA1.out 0
      have cA1 := blk_cell hGA1.out 1
      simp at cA0 cA1
      have cK0 := blk_cell hGK1.out 0
      have cK1 := blk_cell hGK1.out 1
      have cK2 := blk_cell hGK1.out 2
      have cK3 := blk_cell hGK1.out 3
      have cK4 := blk_cell hGK1.out 4
      have cK5 := blk_cell hGK1.out 5
      have cK6 := blk_cell hGK1.out 6
      simp at cK0 cK1 cK2 cK3 cK4 cK5 cK6
      go_wp2_with fail
      refine (HI.out _).mono ?_
      rintro _ v9 ⟨rfl, hv9⟩
      rw [hv9]
      clear hv9 v9
      go_wp2_with fail
      refine (HJ.out _).mono ?_
      rintro _ v9 ⟨rfl, hv9⟩
      rw [hv9]
      clear hv9 v9
      go_wp2_with fail
      refine (HT.out _).mono ?_
      rintro _ v9 ⟨rfl, hv9⟩
      rw [hv9]
      clear hv9 v9
      go_wp2_with fail
      go_ret
      exact ⟨rfl, hL1.out⟩
    · have bz : (slot == 0) = false := beq_eq_false_iff_ne.2 z
      have E : Hid ((decide (slot = 0) && decide (gen = 0)) = false) := by show _ = _; simp [z]
      rw [E.out]
      clear E
      have hGA0 : Hid (((w.alloc (.cells #[.slice (some ⟨bS, oS, none⟩) s.slots.length cS, .slice (some ⟨bH, oH, none⟩) s.heads.length cH] 26)).alloc (.cells #[.int .i64 key, .int .i64 (C : Int), .int .i64 1, .int .i64 state, .int .i64 slot, .int .i64 gen, .int .i64 steps] 30)).heap[w.heap.size]? = some (.cells #[.slice (some ⟨bS, oS, none⟩) s.slots.length cS, .slice (some ⟨bH, oH, none⟩) s.heads.length cH] 26)) := by
        show _ = _
        have := blk_alloc (heap_newG w (.cells #[.slice (some ⟨bS, oS, none⟩) s.slots.length cS, .slice (some ⟨bH, oH, none⟩) s.heads.length cH] 26)) (.cells #[.int .i64 key, .int .i64 (C : Int), .int .i64 1, .int .i64 state, .int .i64 slot, .int .i64 gen, .int .i64 steps] 30)
        simpa using this
      have hGK0 : Hid (((w.alloc (.cells #[.slice (some ⟨bS, oS, none⟩) s.slots.length cS, .slice (some ⟨bH, oH, none⟩) s.heads.length cH] 26)).alloc (.cells #[.int .i64 key, .int .i64 (C : Int), .int .i64 1, .int .i64 state, .int .i64 slot, .int .i64 gen, .int .i64 steps] 30)).heap[w.heap.size + 1]? = some (.cells #[.int .i64 key, .int .i64 (C : Int), .int .i64 1, .int .i64 state, .int .i64 slot, .int .i64 gen, .int .i64 steps] 30)) := by
        show _ = _
        have := heap_newG (w.alloc (.cells #[.slice (some ⟨bS, oS, none⟩) s.slots.length cS, .slice (some ⟨bH, oH, none⟩) s.heads.length cH] 26)) (.cells #[.int .i64 key, .int .i64 (C : Int), .int .i64 1, .int .i64 state, .int .i64 slot, .int .i64 gen, .int .i64 steps] 30)
        simpa using this
      have hL0 := hidS (((Below.refl w.heap.size w).alloc (Nat.le_refl _) (.cells #[.slice (some ⟨bS, oS, none⟩) s.slots.length cS, .slice (some ⟨bH, oH, none⟩) s.heads.length cH] 26)).alloc (by simp) (.cells #[.int .i64 key, .int .i64 (C : Int), .int .i64 1, .int .i64 state, .int .i64 slot, .int .i64 gen, .int .i64 steps] 30))
      go_enter Try.func65, Try.ntmps65
      go_wp2_with fail
      refine (HK.out _).mono ?_
      rintro _ v9 ⟨rfl, hv9⟩
      rw [hv9]
      clear hv9 v9
      go_wp2_with fail
      refine (HN.out _).mono ?_
      rintro _ w1 ⟨rfl, hb1⟩
      have hGA1 := hidS (blk_later hGA0.out hb1)
      have hGK1 := hidS (blk_later hGK0.out hb1)
      have hL1 := hidS (hL0.out.trans (hb1.mono hL0.out.size))
      clear hb1 hL0 hGA0 hGK0
      have cA0 := blk_cell hGA1.out 0
      have cA1 := blk_cell hGA1.out 1
      simp at cA0 cA1
      have cK0 := blk_cell hGK1.out 0
      have cK1 := blk_cell hGK1.out 1
      have cK2 := blk_cell hGK1.out 2
      have cK3 := blk_cell hGK1.out 3
      have cK4 := blk_cell hGK1.out 4
      have cK5 := blk_cell hGK1.out 5
      have cK6 := blk_cell hGK1.out 6
      simp at cK0 cK1 cK2 cK3 cK4 cK5 cK6
      go_wp2_with fail
      refine (HI.out _).mono ?_
      rintro _ v9 ⟨rfl, hv9⟩
      rw [hv9]
      clear hv9 v9
      go_wp2_with fail
      refine (HJ.out _).mono ?_
      rintro _ v9 ⟨rfl, hv9⟩
      rw [hv9]
      clear hv9 v9
      go_wp2_with fail
      refine (HT.out _).mono ?_
      rintro _ v9 ⟨rfl, hv9⟩
      rw [hv9]
      clear hv9 v9
      go_wp2_with fail
      go_ret
      exact ⟨rfl, hL1.out⟩
  · subst e
    by_cases hc : cur < 0
    · have E : Hid (wkR s ⟨key, cur, 2, state, slot, gen, steps⟩ = false) := hidS (wk_no2 (place_no fun h => by have := ((place_cur h).1 hc).1; cases this))
      rw [E.out]
      clear E
      clear hR hr
      have hGA0 : Hid (((w.alloc (.cells #[.slice (some ⟨bS, oS, none⟩) s.slots.length cS, .slice (some ⟨bH, oH, none⟩) s.heads.length cH] 26)).alloc (.cells #[.int .i64 key, .int .i64 cur, .int .i64 2, .int .i64 state, .int .i64 slot, .int .i64 gen, .int .i64 steps] 30)).heap[w.heap.size]? = some (.cells #[.slice (some ⟨bS, oS, none⟩) s.slots.length cS, .slice (some ⟨bH, oH, none⟩) s.heads.length cH] 26)) := by
        show _ = _
        have := blk_alloc (heap_newG w (.cells #[.slice (some ⟨bS, oS, none⟩) s.slots.length cS, .slice (some ⟨bH, oH, none⟩) s.heads.length cH] 26)) (.cells #[.int .i64 key, .int .i64 cur, .int .i64 2, .int .i64 state, .int .i64 slot, .int .i64 gen, .int .i64 steps] 30)
        simpa using this
      have hGK0 : Hid (((w.alloc (.cells #[.slice (some ⟨bS, oS, none⟩) s.slots.length cS, .slice (some ⟨bH, oH, none⟩) s.heads.length cH] 26)).alloc (.cells #[.int .i64 key, .int .i64 cur, .int .i64 2, .int .i64 state, .int .i64 slot, .int .i64 gen, .int .i64 steps] 30)).heap[w.heap.size + 1]? = some (.cells #[.int .i64 key, .int .i64 cur, .int .i64 2, .int .i64 state, .int .i64 slot, .int .i64 gen, .int .i64 steps] 30)) := by
        show _ = _
        have := heap_newG (w.alloc (.cells #[.slice (some ⟨bS, oS, none⟩) s.slots.length cS, .slice (some ⟨bH, oH, none⟩) s.heads.length cH] 26)) (.cells #[.int .i64 key, .int .i64 cur, .int .i64 2, .int .i64 state, .int .i64 slot, .int .i64 gen, .int .i64 steps] 30)
        simpa using this
      have hL0 := hidS (((Below.refl w.heap.size w).alloc (Nat.le_refl _) (.cells #[.slice (some ⟨bS, oS, none⟩) s.slots.length cS, .slice (some ⟨bH, oH, none⟩) s.heads.length cH] 26)).alloc (by simp) (.cells #[.int .i64 key, .int .i64 cur, .int .i64 2, .int .i64 state, .int .i64 slot, .int .i64 gen, .int .i64 steps] 30))
      go_enter Try.func65, Try.ntmps65
      go_wp2_with fail
      refine (HK.out _).mono ?_
      rintro _ v9 ⟨rfl, hv9⟩
      rw [hv9]
      clear hv9 v9
      go_wp2_with fail
      refine (HN.out _).mono ?_
      rintro _ w1 ⟨rfl, hb1⟩
      have hGA1 := hidS (blk_later hGA0.out hb1)
      have hGK1 := hidS (blk_later hGK0.out hb1)
      have hL1 := hidS (hL0.out.trans (hb1.mono hL0.out.size))
      clear hb1 hL0 hGA0 hGK0
      have cA0 := blk_cell hGA1.out 0
      have cA1 := blk_cell hGA1.out 1
      simp at cA0 cA1
      have cK0 := blk_cell hGK1.out 0
      have cK1 := blk_cell hGK1.out 1
      have cK2 := blk_cell hGK1.out 2
      have cK3 := blk_cell hGK1.out 3
      have cK4 := blk_cell hGK1.out 4
      have cK5 := blk_cell hGK1.out 5
      have cK6 := blk_cell hGK1.out 6
      simp at cK0 cK1 cK2 cK3 cK4 cK5 cK6
      go_wp2_with fail
      refine (HI.out _).mono ?_
      rintro _ v9 ⟨rfl, hv9⟩
      rw [hv9]
      clear hv9 v9
      go_wp2_with fail
      go_ret
      exact ⟨rfl, hL1.out⟩
    have hcn : nextB s.slots.length s.heads.length cur = true := hn
    have hci : inB s.slots.length cur = true := in_iff.2 (by unfold nextB endB at hn; simp at hn; omega)
    clear hn
    obtain ⟨C, rfl, hC⟩ : ∃ C : Nat, cur = (C : Int) ∧ C < s.slots.length := by
      obtain ⟨a, b⟩ := in_iff.1 hci; exact ⟨cur.toNat, by omega, by omega⟩
    have hCC : (0 : Int) ≤ (C : Int) ∧ (C : Int) < (s.slots.length : Int) := by omega
    have hc0 : ¬ (C : Int) < 0 := by omega
    cases hj : (decide (0 ≤ state) && decide (state ≤ 2))
    · have E : Hid (wkR s ⟨key, (C : Int), 2, state, slot, gen, steps⟩ = false) := hidS (wk_no3 (by have h1 : ¬ (state = 0 ∨ state = 2) := by { intro h; rcases h with h | h <;> subst h <;> simp at hj }; have h2 : ¬ state = 1 := by { intro h; subst h; simp at hj }; unfold outB; show (if state = 0 ∨ state = 2 then _ else if state = 1 then _ else false) = false; rw [if_neg h1, if_neg h2]))
      rw [E.out]
      clear E
      rw [hj] at HJ
      clear hR hr hj
      have hGA0 : Hid (((w.alloc (.cells #[.slice (some ⟨bS, oS, none⟩) s.slots.length cS, .slice (some ⟨bH, oH, none⟩) s.heads.length cH] 26)).alloc (.cells #[.int .i64 key, .int .i64 (C : Int), .int .i64 2, .int .i64 state, .int .i64 slot, .int .i64 gen, .int .i64 steps] 30)).heap[w.heap.size]? = some (.cells #[.slice (some ⟨bS, oS, none⟩) s.slots.length cS, .slice (some ⟨bH, oH, none⟩) s.heads.length cH] 26)) := by
        show _ = _
        have := blk_alloc (heap_newG w (.cells #[.slice (some ⟨bS, oS, none⟩) s.slots.length cS, .slice (some ⟨bH, oH, none⟩) s.heads.length cH] 26)) (.cells #[.int .i64 key, .int .i64 (C : Int), .int .i64 2, .int .i64 state, .int .i64 slot, .int .i64 gen, .int .i64 steps] 30)
        simpa using this
      have hGK0 : Hid (((w.alloc (.cells #[.slice (some ⟨bS, oS, none⟩) s.slots.length cS, .slice (some ⟨bH, oH, none⟩) s.heads.length cH] 26)).alloc (.cells #[.int .i64 key, .int .i64 (C : Int), .int .i64 2, .int .i64 state, .int .i64 slot, .int .i64 gen, .int .i64 steps] 30)).heap[w.heap.size + 1]? = some (.cells #[.int .i64 key, .int .i64 (C : Int), .int .i64 2, .int .i64 state, .int .i64 slot, .int .i64 gen, .int .i64 steps] 30)) := by
        show _ = _
        have := heap_newG (w.alloc (.cells #[.slice (some ⟨bS, oS, none⟩) s.slots.length cS, .slice (some ⟨bH, oH, none⟩) s.heads.length cH] 26)) (.cells #[.int .i64 key, .int .i64 (C : Int), .int .i64 2, .int .i64 state, .int .i64 slot, .int .i64 gen, .int .i64 steps] 30)
        simpa using this
      have hL0 := hidS (((Below.refl w.heap.size w).alloc (Nat.le_refl _) (.cells #[.slice (some ⟨bS, oS, none⟩) s.slots.length cS, .slice (some ⟨bH, oH, none⟩) s.heads.length cH] 26)).alloc (by simp) (.cells #[.int .i64 key, .int .i64 (C : Int), .int .i64 2, .int .i64 state, .int .i64 slot, .int .i64 gen, .int .i64 steps] 30))
      go_enter Try.func65, Try.ntmps65
      go_wp2_with fail
      refine (HK.out _).mono ?_
      rintro _ v9 ⟨rfl, hv9⟩
      rw [hv9]
      clear hv9 v9
      go_wp2_with fail
      refine (HN.out _).mono ?_
      rintro _ w1 ⟨rfl, hb1⟩
      have hGA1 := hidS (blk_later hGA0.out hb1)
      have hGK1 := hidS (blk_later hGK0.out hb1)
      have hL1 := hidS (hL0.out.trans (hb1.mono hL0.out.size))
      clear hb1 hL0 hGA0 hGK0
      have cA0 := blk_cell hGA1.out 0
      have cA1 := blk_cell hGA1.out 1
      simp at cA0 cA1
      have cK0 := blk_cell hGK1.out 0
      have cK1 := blk_cell hGK1.out 1
      have cK2 := blk_cell hGK1.out 2
      have cK3 := blk_cell hGK1.out 3
      have cK4 := blk_cell hGK1.out 4
      have cK5 := blk_cell hGK1.out 5
      have cK6 := blk_cell hGK1.out 6
      simp at cK0 cK1 cK2 cK3 cK4 cK5 cK6
      go_wp2_with fail
      refine (HI.out _).mono ?_
      rintro _ v9 ⟨rfl, hv9⟩
      rw [hv9]
      clear hv9 v9
      go_wp2_with fail
      refine (HJ.out _).mono ?_
      rintro _ v9 ⟨rfl, hv9⟩
      rw [hv9]
      clear hv9 v9
      go_wp2_with fail
      go_ret
      exact ⟨rfl, hL1.out⟩
    rw [hj] at HJ
    have hsr : 0 ≤ state ∧ state ≤ 2 := by simpa using hj
    clear hj
    cases ht : timeB steps
    · have E : Hid (wkR s ⟨key, (C : Int), 2, state, slot, gen, steps⟩ = false) := hidS (wk_no4 ht)
      rw [E.out]
      clear E
      rw [ht] at HT
      clear hR hr ht
      have hGA0 : Hid (((w.alloc (.cells #[.slice (some ⟨bS, oS, none⟩) s.slots.length cS, .slice (some ⟨bH, oH, none⟩) s.heads.length cH] 26)).alloc (.cells #[.int .i64 key, .int .i64 (C : Int), .int .i64 2, .int .i64 state, .int .i64 slot, .int .i64 gen, .int .i64 steps] 30)).heap[w.heap.size]? = some (.cells #[.slice (some ⟨bS, oS, none⟩) s.slots.length cS, .slice (some ⟨bH, oH, none⟩) s.heads.length cH] 26)) := by
        show _ = _
        have := blk_alloc (heap_newG w (.cells #[.slice (some ⟨bS, oS, none⟩) s.slots.length cS, .slice (some ⟨bH, oH, none⟩) s.heads.length cH] 26)) (.cells #[.int .i64 key, .int .i64 (C : Int), .int .i64 2, .int .i64 state, .int .i64 slot, .int .i64 gen, .int .i64 steps] 30)
        simpa using this
      have hGK0 : Hid (((w.alloc (.cells #[.slice (some ⟨bS, oS, none⟩) s.slots.length cS, .slice (some ⟨bH, oH, none⟩) s.heads.length cH] 26)).alloc (.cells #[.int .i64 key, .int .i64 (C : Int), .int .i64 2, .int .i64 state, .int .i64 slot, .int .i64 gen, .int .i64 steps] 30)).heap[w.heap.size + 1]? = some (.cells #[.int .i64 key, .int .i64 (C : Int), .int .i64 2, .int .i64 state, .int .i64 slot, .int .i64 gen, .int .i64 steps] 30)) := by
        show _ = _
        have := heap_newG (w.alloc (.cells #[.slice (some ⟨bS, oS, none⟩) s.slots.length cS, .slice (some ⟨bH, oH, none⟩) s.heads.length cH] 26)) (.cells #[.int .i64 key, .int .i64 (C : Int), .int .i64 2, .int .i64 state, .int .i64 slot, .int .i64 gen, .int .i64 steps] 30)
        simpa using this
      have hL0 := hidS (((Below.refl w.heap.size w).alloc (Nat.le_refl _) (.cells #[.slice (some ⟨bS, oS, none⟩) s.slots.length cS, .slice (some ⟨bH, oH, none⟩) s.heads.length cH] 26)).alloc (by simp) (.cells #[.int .i64 key, .int .i64 (C : Int), .int .i64 2, .int .i64 state, .int .i64 slot, .int .i64 gen, .int .i64 steps] 30))
      go_enter Try.func65, Try.ntmps65
      go_wp2_with fail
      refine (HK.out _).mono ?_
      rintro _ v9 ⟨rfl, hv9⟩
      rw [hv9]
      clear hv9 v9
      go_wp2_with fail
      refine (HN.out _).mono ?_
      rintro _ w1 ⟨rfl, hb1⟩
      have hGA1 := hidS (blk_later hGA0.out hb1)
      have hGK1 := hidS (blk_later hGK0.out hb1)
      have hL1 := hidS (hL0.out.trans (hb1.mono hL0.out.size))
      clear hb1 hL0 hGA0 hGK0
      have cA0 := blk_cell hGA1.out 0
      have cA1 := blk_cell hGA1.out 1
      simp at cA0 cA1
      have cK0 := blk_cell hGK1.out 0
      have cK1 := blk_cell hGK1.out 1
      have cK2 := blk_cell hGK1.out 2
      have cK3 := blk_cell hGK1.out 3
      have cK4 := blk_cell hGK1.out 4
      have cK5 := blk_cell hGK1.out 5
      have cK6 := blk_cell hGK1.out 6
      simp at cK0 cK1 cK2 cK3 cK4 cK5 cK6
      go_wp2_with fail
      refine (HI.out _).mono ?_
      rintro _ v9 ⟨rfl, hv9⟩
      rw [hv9]
      clear hv9 v9
      go_wp2_with fail
      refine (HJ.out _).mono ?_
      rintro _ v9 ⟨rfl, hv9⟩
      rw [hv9]
      clear hv9 v9
      go_wp2_with fail
      refine (HT.out _).mono ?_
      rintro _ v9 ⟨rfl, hv9⟩
      rw [hv9]
      clear hv9 v9
      go_wp2_with fail
      go_ret
      exact ⟨rfl, hL1.out⟩
    rw [ht] at HT
    have hse : ¬ state = 1 → state = 0 ∨ state = 2 := fun _ => by omega
    have HK2 := hidS (fun W (h : Below w.heap.size w W) => l06Linked_any bS oS (some ⟨bH, oH, none⟩) cS cH s C W (hR.later h) hr hC)
    have hx0 := refs_nat hr hC
    obtain ⟨x, hx⟩ : ∃ x, s.slots.getD C zeroSlt = x := ⟨_, rfl⟩
    have EP : Hid (placeB s (C : Int) 2 = (decide (2 ≤ x.refs) || (decide (x.refs = 1) && !linkedB s (C : Int)))) := by show _ = _; unfold placeB; rw [if_neg (by decide), if_neg (by decide), if_pos rfl, hci, slot_nat, hx]; rfl
    have HSL : Hid (∀ W, Below w.heap.size w W → bS < W.heap.size ∧ W.cell? ⟨bS, oS + C * 4 + 2, none⟩ = some (.int .i64 x.refs)) := hidS (fun W h => by
      obtain ⟨b', o', eS, lS, c0, c1, c2, c3⟩ := (hR.slots.later h).slot hC
      injection eS with eS; injection eS with eS1 eS2
      subst eS1 eS2
      rw [hx] at c2
      exact ⟨lS, c2⟩)
    rw [hx] at hx0
    generalize x.refs = r at *
    clear hx hR hr hcn hci x
    by_cases g1 : r < 1
    · have hp : placeB s (C : Int) 2 = false := by rw [EP.out, decide_eq_false (by omega : ¬ 2 ≤ r), decide_eq_false (by omega : ¬ r = 1)]; rfl
      rw [wk_no2 (k := ⟨key, (C : Int), 2, state, slot, gen, steps⟩) hp]
      clear hp EP
      have hGA0 : Hid (((w.alloc (.cells #[.slice (some ⟨bS, oS, none⟩) s.slots.length cS, .slice (some ⟨bH, oH, none⟩) s.heads.length cH] 26)).alloc (.cells #[.int .i64 key, .int .i64 (C : Int), .int .i64 2, .int .i64 state, .int .i64 slot, .int .i64 gen, .int .i64 steps] 30)).heap[w.heap.size]? = some (.cells #[.slice (some ⟨bS, oS, none⟩) s.slots.length cS, .slice (some ⟨bH, oH, none⟩) s.heads.length cH] 26)) := by
        show _ = _
        have := blk_alloc (heap_newG w (.cells #[.slice (some ⟨bS, oS, none⟩) s.slots.length cS, .slice (some ⟨bH, oH, none⟩) s.heads.length cH] 26)) (.cells #[.int .i64 key, .int .i64 (C : Int), .int .i64 2, .int .i64 state, .int .i64 slot, .int .i64 gen, .int .i64 steps] 30)
        simpa using this
      have hGK0 : Hid (((w.alloc (.cells #[.slice (some ⟨bS, oS, none⟩) s.slots.length cS, .slice (some ⟨bH, oH, none⟩) s.heads.length cH] 26)).alloc (.cells #[.int .i64 key, .int .i64 (C : Int), .int .i64 2, .int .i64 state, .int .i64 slot, .int .i64 gen, .int .i64 steps] 30)).heap[w.heap.size + 1]? = some (.cells #[.int .i64 key, .int .i64 (C : Int), .int .i64 2, .int .i64 state, .int .i64 slot, .int .i64 gen, .int .i64 steps] 30)) := by
        show _ = _
        have := heap_newG (w.alloc (.cells #[.slice (some ⟨bS, oS, none⟩) s.slots.length cS, .slice (some ⟨bH, oH, none⟩) s.heads.length cH] 26)) (.cells #[.int .i64 key, .int .i64 (C : Int), .int .i64 2, .int .i64 state, .int .i64 slot, .int .i64 gen, .int .i64 steps] 30)
        simpa using this
      have hL0 := hidS (((Below.refl w.heap.size w).alloc (Nat.le_refl _) (.cells #[.slice (some ⟨bS, oS, none⟩) s.slots.length cS, .slice (some ⟨bH, oH, none⟩) s.heads.length cH] 26)).alloc (by simp) (.cells #[.int .i64 key, .int .i64 (C : Int), .int .i64 2, .int .i64 state, .int .i64 slot, .int .i64 gen, .int .i64 steps] 30))
      go_enter Try.func65, Try.ntmps65
      go_wp2_with fail
      refine (HK.out _).mono ?_
      rintro _ v9 ⟨rfl, hv9⟩
      rw [hv9]
      clear hv9 v9
      go_wp2_with fail
      refine (HN.out _).mono ?_
      rintro _ w1 ⟨rfl, hb1⟩
      have hGA1 := hidS (blk_later hGA0.out hb1)
      have hGK1 := hidS (blk_later hGK0.out hb1)
      have hL1 := hidS (hL0.out.trans (hb1.mono hL0.out.size))
      clear hb1 hL0 hGA0 hGK0
      have cA0 := blk_cell hGA1.out 0
      have cA1 := blk_cell hGA1.out 1
      simp at cA0 cA1
      have cK0 := blk_cell hGK1.out 0
      have cK1 := blk_cell hGK1.out 1
      have cK2 := blk_cell hGK1.out 2
      have cK3 := blk_cell hGK1.out 3
      have cK4 := blk_cell hGK1.out 4
      have cK5 := blk_cell hGK1.out 5
      have cK6 := blk_cell hGK1.out 6
      simp at cK0 cK1 cK2 cK3 cK4 cK5 cK6
      go_wp2_with fail
      refine (HI.out _).mono ?_
      rintro _ v9 ⟨rfl, hv9⟩
      rw [hv9]
      clear hv9 v9
      go_wp2_with fail
      refine (HJ.out _).mono ?_
      rintro _ v9 ⟨rfl, hv9⟩
      rw [hv9]
      clear hv9 v9
      go_wp2_with fail
      refine (HT.out _).mono ?_
      rintro _ v9 ⟨rfl, hv9⟩
      rw [hv9]
      clear hv9 v9
      obtain ⟨lS, c2⟩ := HSL.out _ hL1.out
      go_wp2_with fail
      go_ret
      exact ⟨rfl, hL1.out⟩
    by_cases g2 : r < 2
    case neg =>
      have hp : placeB s (C : Int) 2 = true := by rw [EP.out, decide_eq_true (by omega : 2 ≤ r)]; rfl
      rw [wk_yes (k := ⟨key, (C : Int), 2, state, slot, gen, steps⟩) hk hp ht]
      clear hp EP hk ht
      by_cases s1 : state = 1
      · subst s1
        have E : Hid (outB s ⟨key, (C : Int), 2, 1, slot, gen, steps⟩ = (inB s.slots.length slot && timeB gen)) := by show _ = _; unfold outB; rw [if_neg (by simp), if_pos rfl]
        rw [E.out]
        clear E
        have HA := hidS (fun W => l02Is_any slot 0 ((s.slots.length : Int) - 1) W)
        have HB := hidS (fun W => l02Time_any gen W)
        have EI : Hid ((decide (0 ≤ slot) && decide (slot ≤ (s.slots.length : Int) - 1)) = inB s.slots.length slot) := by
          show _ = _
          unfold inB
          by_cases a : slot < (s.slots.length : Int)
          · rw [decide_eq_true a, decide_eq_true (by omega : slot ≤ (s.slots.length : Int) - 1)]
          · rw [decide_eq_false a, decide_eq_false (by omega : ¬ slot ≤ (s.slots.length : Int) - 1)]
        rw [EI.out] at HA
        clear EI
        generalize inB s.slots.length slot = q1 at HA ⊢
        generalize timeB gen = q2 at HB ⊢
        cases q1
        · have hGA0 : Hid (((w.alloc (.cells #[.slice (some ⟨bS, oS, none⟩) s.slots.length cS, .slice (some ⟨bH, oH, none⟩) s.heads.length cH] 26)).alloc (.cells #[.int .i64 key, .int .i64 (C : Int), .int .i64 2, .int .i64 1, .int .i64 slot, .int .i64 gen, .int .i64 steps] 30)).heap[w.heap.size]? = some (.cells #[.slice (some ⟨bS, oS, none⟩) s.slots.length cS, .slice (some ⟨bH, oH, none⟩) s.heads.length cH] 26)) := by
            show _ = _
            have := blk_alloc (heap_newG w (.cells #[.slice (some ⟨bS, oS, none⟩) s.slots.length cS, .slice (some ⟨bH, oH, none⟩) s.heads.length cH] 26)) (.cells #[.int .i64 key, .int .i64 (C : Int), .int .i64 2, .int .i64 1, .int .i64 slot, .int .i64 gen, .int .i64 steps] 30)
            simpa using this
          have hGK0 : Hid (((w.alloc (.cells #[.slice (some ⟨bS, oS, none⟩) s.slots.length cS, .slice (some ⟨bH, oH, none⟩) s.heads.length cH] 26)).alloc (.cells #[.int .i64 key, .int .i64 (C : Int), .int .i64 2, .int .i64 1, .int .i64 slot, .int .i64 gen, .int .i64 steps] 30)).heap[w.heap.size + 1]? = some (.cells #[.int .i64 key, .int .i64 (C : Int), .int .i64 2, .int .i64 1, .int .i64 slot, .int .i64 gen, .int .i64 steps] 30)) := by
            show _ = _
            have := heap_newG (w.alloc (.cells #[.slice (some ⟨bS, oS, none⟩) s.slots.length cS, .slice (some ⟨bH, oH, none⟩) s.heads.length cH] 26)) (.cells #[.int .i64 key, .int .i64 (C : Int), .int .i64 2, .int .i64 1, .int .i64 slot, .int .i64 gen, .int .i64 steps] 30)
            simpa using this
          have hL0 := hidS (((Below.refl w.heap.size w).alloc (Nat.le_refl _) (.cells #[.slice (some ⟨bS, oS, none⟩) s.slots.length cS, .slice (some ⟨bH, oH, none⟩) s.heads.length cH] 26)).alloc (by simp) (.cells #[.int .i64 key, .int .i64 (C : Int), .int .i64 2, .int .i64 1, .int .i64 slot, .int .i64 gen, .int .i64 steps] 30))
          go_enter Try.func65, Try.ntmps65
          go_wp2_with fail
          refine (HK.out _).mono ?_
          rintro _ v9 ⟨rfl, hv9⟩
          rw [hv9]
          clear hv9 v9
          go_wp2_with fail
          refine (HN.out _).mono ?_
          rintro _ w1 ⟨rfl, hb1⟩
          have hGA1 := hidS (blk_later hGA0.out hb1)
          have hGK1 := hidS (blk_later hGK0.out hb1)
          have hL1 := hidS (hL0.out.trans (hb1.mono hL0.out.size))
          clear hb1 hL0 hGA0 hGK0
          have cA0 := blk_cell hGA1.out 0
          have cA1 := blk_cell hGA1.out 1
          simp at cA0 cA1
          have cK0 := blk_cell hGK1.out 0
          have cK1 := blk_cell hGK1.out 1
          have cK2 := blk_cell hGK1.out 2
          have cK3 := blk_cell hGK1.out 3
          have cK4 := blk_cell hGK1.out 4
          have cK5 := blk_cell hGK1.out 5
          have cK6 := blk_cell hGK1.out 6
          simp at cK0 cK1 cK2 cK3 cK4 cK5 cK6
          go_wp2_with fail
          refine (HI.out _).mono ?_
          rintro _ v9 ⟨rfl, hv9⟩
          rw [hv9]
          clear hv9 v9
          go_wp2_with fail
          refine (HJ.out _).mono ?_
          rintro _ v9 ⟨rfl, hv9⟩
          rw [hv9]
          clear hv9 v9
          go_wp2_with fail
          refine (HT.out _).mono ?_
          rintro _ v9 ⟨rfl, hv9⟩
          rw [hv9]
          clear hv9 v9
          obtain ⟨lS, c2⟩ := HSL.out _ hL1.out
          go_wp2_with fail
          refine (HA.out _).mono ?_
          rintro _ v9 ⟨rfl, hv9⟩
          rw [hv9]
          clear hv9 v9
          go_wp2_with fail
          go_ret
          exact ⟨by simp, hL1.out⟩
        · have hGA0 : Hid (((w.alloc (.cells #[.slice (some ⟨bS, oS, none⟩) s.slots.length cS, .slice (some ⟨bH, oH, none⟩) s.heads.length cH] 26)).alloc (.cells #[.int .i64 key, .int .i64 (C : Int), .int .i64 2, .int .i64 1, .int .i64 slot, .int .i64 gen, .int .i64 steps] 30)).heap[w.heap.size]? = some (.cells #[.slice (some ⟨bS, oS, none⟩) s.slots.length cS, .slice (some ⟨bH, oH, none⟩) s.heads.length cH] 26)) := by
            show _ = _
            have := blk_alloc (heap_newG w (.cells #[.slice (some ⟨bS, oS, none⟩) s.slots.length cS, .slice (some ⟨bH, oH, none⟩) s.heads.length cH] 26)) (.cells #[.int .i64 key, .int .i64 (C : Int), .int .i64 2, .int .i64 1, .int .i64 slot, .int .i64 gen, .int .i64 steps] 30)
            simpa using this
          have hGK0 : Hid (((w.alloc (.cells #[.slice (some ⟨bS, oS, none⟩) s.slots.length cS, .slice (some ⟨bH, oH, none⟩) s.heads.length cH] 26)).alloc (.cells #[.int .i64 key, .int .i64 (C : Int), .int .i64 2, .int .i64 1, .int .i64 slot, .int .i64 gen, .int .i64 steps] 30)).heap[w.heap.size + 1]? = some (.cells #[.int .i64 key, .int .i64 (C : Int), .int .i64 2, .int .i64 1, .int .i64 slot, .int .i64 gen, .int .i64 steps] 30)) := by
            show _ = _
            have := heap_newG (w.alloc (.cells #[.slice (some ⟨bS, oS, none⟩) s.slots.length cS, .slice (some ⟨bH, oH, none⟩) s.heads.length cH] 26)) (.cells #[.int .i64 key, .int .i64 (C : Int), .int .i64 2, .int .i64 1, .int .i64 slot, .int .i64 gen, .int .i64 steps] 30)
            simpa using this
          have hL0 := hidS (((Below.refl w.heap.size w).alloc (Nat.le_refl _) (.cells #[.slice (some ⟨bS, oS, none⟩) s.slots.length cS, .slice (some ⟨bH, oH, none⟩) s.heads.length cH] 26)).alloc (by simp) (.cells #[.int .i64 key, .int .i64 (C : Int), .int .i64 2, .int .i64 1, .int .i64 slot, .int .i64 gen, .int .i64 steps] 30))
          go_enter Try.func65, Try.ntmps65
          go_wp2_with fail
          refine (HK.out _).mono ?_
          rintro _ v9 ⟨rfl, hv9⟩
          rw [hv9]
          clear hv9 v9
          go_wp2_with fail
          refine (HN.out _).mono ?_
          rintro _ w1 ⟨rfl, hb1⟩
          have hGA1 := hidS (blk_later hGA0.out hb1)
          have hGK1 := hidS (blk_later hGK0.out hb1)
          have hL1 := hidS (hL0.out.trans (hb1.mono hL0.out.size))
          clear hb1 hL0 hGA0 hGK0
          have cA0 := blk_cell hGA1.out 0
          have cA1 := blk_cell hGA1.out 1
          simp at cA0 cA1
          have cK0 := blk_cell hGK1.out 0
          have cK1 := blk_cell hGK1.out 1
          have cK2 := blk_cell hGK1.out 2
          have cK3 := blk_cell hGK1.out 3
          have cK4 := blk_cell hGK1.out 4
          have cK5 := blk_cell hGK1.out 5
          have cK6 := blk_cell hGK1.out 6
          simp at cK0 cK1 cK2 cK3 cK4 cK5 cK6
          go_wp2_with fail
          refine (HI.out _).mono ?_
          rintro _ v9 ⟨rfl, hv9⟩
          rw [hv9]
          clear hv9 v9
          go_wp2_with fail
          refine (HJ.out _).mono ?_
          rintro _ v9 ⟨rfl, hv9⟩
          rw [hv9]
          clear hv9 v9
          go_wp2_with fail
          refine (HT.out _).mono ?_
          rintro _ v9 ⟨rfl, hv9⟩
          rw [hv9]
          clear hv9 v9
          obtain ⟨lS, c2⟩ := HSL.out _ hL1.out
          go_wp2_with fail
          refine (HA.out _).mono ?_
          rintro _ v9 ⟨rfl, hv9⟩
          rw [hv9]
          clear hv9 v9
          go_wp2_with fail
          refine (HB.out _).mono ?_
          rintro _ v9 ⟨rfl, hv9⟩
          rw [hv9]
          clear hv9 v9
          go_wp2_with fail
          go_ret
          exact ⟨by simp, hL1.out⟩
      have bs : (state == 1) = false := beq_eq_false_iff_ne.2 s1
      have E : Hid (outB s ⟨key, (C : Int), 2, state, slot, gen, steps⟩ = (decide (slot = 0) && decide (gen = 0))) := by show _ = _; unfold outB; rw [if_pos (hse s1)]
      rw [E.out]
      clear E
      by_cases z : slot = 0
      · subst z
        have E : Hid ((decide ((0 : Int) = 0) && decide (gen = 0)) = (gen == 0)) := by show _ = _; by_cases h : gen = 0 <;> simp [h]
        rw [E.out]
        clear E
        have hGA0 : Hid (((w.alloc (.cells #[.slice (some ⟨bS, oS, none⟩) s.slots.length cS, .slice (some ⟨bH, oH, none⟩) s.heads.length cH] 26)).alloc (.cells #[.int .i64 key, .int .i64 (C : Int), .int .i64 2, .int .i64 state, .int .i64 0, .int .i64 gen, .int .i64 steps] 30)).heap[w.heap.size]? = some (.cells #[.slice (some ⟨bS, oS, none⟩) s.slots.length cS, .slice (some ⟨bH, oH, none⟩) s.heads.length cH] 26)) := by
          show _ = _
          have := blk_alloc (heap_newG w (.cells #[.slice (some ⟨bS, oS, none⟩) s.slots.length cS, .slice (some ⟨bH, oH, none⟩) s.heads.length cH] 26)) (.cells #[.int .i64 key, .int .i64 (C : Int), .int .i64 2, .int .i64 state, .int .i64 0, .int .i64 gen, .int .i64 steps] 30)
          simpa using this
        have hGK0 : Hid (((w.alloc (.cells #[.slice (some ⟨bS, oS, none⟩) s.slots.length cS, .slice (some ⟨bH, oH, none⟩) s.heads.length cH] 26)).alloc (.cells #[.int .i64 key, .int .i64 (C : Int), .int .i64 2, .int .i64 state, .int .i64 0, .int .i64 gen, .int .i64 steps] 30)).heap[w.heap.size + 1]? = some (.cells #[.int .i64 key, .int .i64 (C : Int), .int .i64 2, .int .i64 state, .int .i64 0, .int .i64 gen, .int .i64 steps] 30)) := by
          show _ = _
          have := heap_newG (w.alloc (.cells #[.slice (some ⟨bS, oS, none⟩) s.slots.length cS, .slice (some ⟨bH, oH, none⟩) s.heads.length cH] 26)) (.cells #[.int .i64 key, .int .i64 (C : Int), .int .i64 2, .int .i64 state, .int .i64 0, .int .i64 gen, .int .i64 steps] 30)
          simpa using this
        have hL0 := hidS (((Below.refl w.heap.size w).alloc (Nat.le_refl _) (.cells #[.slice (some ⟨bS, oS, none⟩) s.slots.length cS, .slice (some ⟨bH, oH, none⟩) s.heads.length cH] 26)).alloc (by simp) (.cells #[.int .i64 key, .int .i64 (C : Int), .int .i64 2, .int .i64 state, .int .i64 0, .int .i64 gen, .int .i64 steps] 30))
        go_enter Try.func65, Try.ntmps65
        go_wp2_with fail
        refine (HK.out _).mono ?_
        rintro _ v9 ⟨rfl, hv9⟩
        rw [hv9]
        clear hv9 v9
        go_wp2_with fail
        refine (HN.out _).mono ?_
        rintro _ w1 ⟨rfl, hb1⟩
        have hGA1 := hidS (blk_later hGA0.out hb1)
        have hGK1 := hidS (blk_later hGK0.out hb1)
        have hL1 := hidS (hL0.out.trans (hb1.mono hL0.out.size))
        clear hb1 hL0 hGA0 hGK0
        have cA0 := blk_cell hGA1.out 0
        have cA1 := blk_cell hGA1.out 1
        simp at cA0 cA1
        have cK0 := blk_cell hGK1.out 0
        have cK1 := blk_cell hGK1.out 1
        have cK2 := blk_cell hGK1.out 2
        have cK3 := blk_cell hGK1.out 3
        have cK4 := blk_cell hGK1.out 4
        have cK5 := blk_cell hGK1.out 5
        have cK6 := blk_cell hGK1.out 6
        simp at cK0 cK1 cK2 cK3 cK4 cK5 cK6
        go_wp2_with fail
        refine (HI.out _).mono ?_
        rintro _ v9 ⟨rfl, hv9⟩
        rw [hv9]
        clear hv9 v9
        go_wp2_with fail
        refine (HJ.out _).mono ?_
        rintro _ v9 ⟨rfl, hv9⟩
        rw [hv9]
        clear hv9 v9
        go_wp2_with fail
        refine (HT.out _).mono ?_
        rintro _ v9 ⟨rfl, hv9⟩
        rw [hv9]
        clear hv9 v9
        obtain ⟨lS, c2⟩ := HSL.out _ hL1.out
        go_wp2_with fail
        go_ret
        exact ⟨rfl, hL1.out⟩
      · have bz : (slot == 0) = false := beq_eq_false_iff_ne.2 z
        have E : Hid ((decide (slot = 0) && decide (gen = 0)) = false) := by show _ = _; simp [z]
        rw [E.out]
        clear E
        have hGA0 : Hid (((w.alloc (.cells #[.slice (some ⟨bS, oS, none⟩) s.slots.length cS, .slice (some ⟨bH, oH, none⟩) s.heads.length cH] 26)).alloc (.cells #[.int .i64 key, .int .i64 (C : Int), .int .i64 2, .int .i64 state, .int .i64 slot, .int .i64 gen, .int .i64 steps] 30)).heap[w.heap.size]? = some (.cells #[.slice (some ⟨bS, oS, none⟩) s.slots.length cS, .slice (some ⟨bH, oH, none⟩) s.heads.length cH] 26)) := by
          show _ = _
          have := blk_alloc (heap_newG w (.cells #[.slice (some ⟨bS, oS, none⟩) s.slots.length cS, .slice (some ⟨bH, oH, none⟩) s.heads.length cH] 26)) (.cells #[.int .i64 key, .int .i64 (C : Int), .int .i64 2, .int .i64 state, .int .i64 slot, .int .i64 gen, .int .i64 steps] 30)
          simpa using this
        have hGK0 : Hid (((w.alloc (.cells #[.slice (some ⟨bS, oS, none⟩) s.slots.length cS, .slice (some ⟨bH, oH, none⟩) s.heads.length cH] 26)).alloc (.cells #[.int .i64 key, .int .i64 (C : Int), .int .i64 2, .int .i64 state, .int .i64 slot, .int .i64 gen, .int .i64 steps] 30)).heap[w.heap.size + 1]? = some (.cells #[.int .i64 key, .int .i64 (C : Int), .int .i64 2, .int .i64 state, .int .i64 slot, .int .i64 gen, .int .i64 steps] 30)) := by
          show _ = _
          have := heap_newG (w.alloc (.cells #[.slice (some ⟨bS, oS, none⟩) s.slots.length cS, .slice (some ⟨bH, oH, none⟩) s.heads.length cH] 26)) (.cells #[.int .i64 key, .int .i64 (C : Int), .int .i64 2, .int .i64 state, .int .i64 slot, .int .i64 gen, .int .i64 steps] 30)
          simpa using this
        have hL0 := hidS (((Below.refl w.heap.size w).alloc (Nat.le_refl _) (.cells #[.slice (some ⟨bS, oS, none⟩) s.slots.length cS, .slice (some ⟨bH, oH, none⟩) s.heads.length cH] 26)).alloc (by simp) (.cells #[.int .i64 key, .int .i64 (C : Int), .int .i64 2, .int .i64 state, .int .i64 slot, .int .i64 gen, .int .i64 steps] 30))
        go_enter Try.func65, Try.ntmps65
        go_wp2_with fail
        refine (HK.out _).mono ?_
        rintro _ v9 ⟨rfl, hv9⟩
        rw [hv9]
        clear hv9 v9
        go_wp2_with fail
        refine (HN.out _).mono ?_
        rintro _ w1 ⟨rfl, hb1⟩
        have hGA1 := hidS (blk_later hGA0.out hb1)
        have hGK1 := hidS (blk_later hGK0.out hb1)
        have hL1 := hidS (hL0.out.trans (hb1.mono hL0.out.size))
        clear hb1 hL0 hGA0 hGK0
        have cA0 := blk_cell hGA1.out 0
        have cA1 := blk_cell hGA1.out 1
        simp at cA0 cA1
        have cK0 := blk_cell hGK1.out 0
        have cK1 := blk_cell hGK1.out 1
        have cK2 := blk_cell hGK1.out 2
        have cK3 := blk_cell hGK1.out 3
        have cK4 := blk_cell hGK1.out 4
        have cK5 := blk_cell hGK1.out 5
        have cK6 := blk_cell hGK1.out 6
        simp at cK0 cK1 cK2 cK3 cK4 cK5 cK6
        go_wp2_with fail
        refine (HI.out _).mono ?_
        rintro _ v9 ⟨rfl, hv9⟩
        rw [hv9]
        clear hv9 v9
        go_wp2_with fail
        refine (HJ.out _).mono ?_
        rintro _ v9 ⟨rfl, hv9⟩
        rw [hv9]
        clear hv9 v9
        go_wp2_with fail
        refine (HT.out _).mono ?_
        rintro _ v9 ⟨rfl, hv9⟩
        rw [hv9]
        clear hv9 v9
        obtain ⟨lS, c2⟩ := HSL.out _ hL1.out
        go_wp2_with fail
        go_ret
        exact ⟨rfl, hL1.out⟩
    cases hl : linkedB s (C : Int)
    case true =>
      rw [hl] at HK2
      have hp : placeB s (C : Int) 2 = false := by rw [EP.out, hl, decide_eq_false (by omega : ¬ 2 ≤ r)]; simp
      rw [wk_no2 (k := ⟨key, (C : Int), 2, state, slot, gen, steps⟩) hp]
      clear hp EP hl
      have hGA0 : Hid (((w.alloc (.cells #[.slice (some ⟨bS, oS, none⟩) s.slots.length cS, .slice (some ⟨bH, oH, none⟩) s.heads.length cH] 26)).alloc (.cells #[.int .i64 key, .int .i64 (C : Int), .int .i64 2, .int .i64 state, .int .i64 slot, .int .i64 gen, .int .i64 steps] 30)).heap[w.heap.size]? = some (.cells #[.slice (some ⟨bS, oS, none⟩) s.slots.length cS, .slice (some ⟨bH, oH, none⟩) s.heads.length cH] 26)) := by
        show _ = _
        have := blk_alloc (heap_newG w (.cells #[.slice (some ⟨bS, oS, none⟩) s.slots.length cS, .slice (some ⟨bH, oH, none⟩) s.heads.length cH] 26)) (.cells #[.int .i64 key, .int .i64 (C : Int), .int .i64 2, .int .i64 state, .int .i64 slot, .int .i64 gen, .int .i64 steps] 30)
        simpa using this
      have hGK0 : Hid (((w.alloc (.cells #[.slice (some ⟨bS, oS, none⟩) s.slots.length cS, .slice (some ⟨bH, oH, none⟩) s.heads.length cH] 26)).alloc (.cells #[.int .i64 key, .int .i64 (C : Int), .int .i64 2, .int .i64 state, .int .i64 slot, .int .i64 gen, .int .i64 steps] 30)).heap[w.heap.size + 1]? = some (.cells #[.int .i64 key, .int .i64 (C : Int), .int .i64 2, .int .i64 state, .int .i64 slot, .int .i64 gen, .int .i64 steps] 30)) := by
        show _ = _
        have := heap_newG (w.alloc (.cells #[.slice (some ⟨bS, oS, none⟩) s.slots.length cS, .slice (some ⟨bH, oH, none⟩) s.heads.length cH] 26)) (.cells #[.int .i64 key, .int .i64 (C : Int), .int .i64 2, .int .i64 state, .int .i64 slot, .int .i64 gen, .int .i64 steps] 30)
        simpa using this
      have hL0 := hidS (((Below.refl w.heap.size w).alloc (Nat.le_refl _) (.cells #[.slice (some ⟨bS, oS, none⟩) s.slots.length cS, .slice (some ⟨bH, oH, none⟩) s.heads.length cH] 26)).alloc (by simp) (.cells #[.int .i64 key, .int .i64 (C : Int), .int .i64 2, .int .i64 state, .int .i64 slot, .int .i64 gen, .int .i64 steps] 30))
      go_enter Try.func65, Try.ntmps65
      go_wp2_with fail
      refine (HK.out _).mono ?_
      rintro _ v9 ⟨rfl, hv9⟩
      rw [hv9]
      clear hv9 v9
      go_wp2_with fail
      refine (HN.out _).mono ?_
      rintro _ w1 ⟨rfl, hb1⟩
      have hGA1 := hidS (blk_later hGA0.out hb1)
      have hGK1 := hidS (blk_later hGK0.out hb1)
      have hL1 := hidS (hL0.out.trans (hb1.mono hL0.out.size))
      clear hb1 hL0 hGA0 hGK0
      have cA0 := blk_cell hGA1.out 0
      have cA1 := blk_cell hGA1.out 1
      simp at cA0 cA1
      have cK0 := blk_cell hGK1.out 0
      have cK1 := blk_cell hGK1.out 1
      have cK2 := blk_cell hGK1.out 2
      have cK3 := blk_cell hGK1.out 3
      have cK4 := blk_cell hGK1.out 4
      have cK5 := blk_cell hGK1.out 5
      have cK6 := blk_cell hGK1.out 6
      simp at cK0 cK1 cK2 cK3 cK4 cK5 cK6
      go_wp2_with fail
      refine (HI.out _).mono ?_
      rintro _ v9 ⟨rfl, hv9⟩
      rw [hv9]
      clear hv9 v9
      go_wp2_with fail
      refine (HJ.out _).mono ?_
      rintro _ v9 ⟨rfl, hv9⟩
      rw [hv9]
      clear hv9 v9
      go_wp2_with fail
      refine (HT.out _).mono ?_
      rintro _ v9 ⟨rfl, hv9⟩
      rw [hv9]
      clear hv9 v9
      obtain ⟨lS, c2⟩ := HSL.out _ hL1.out
      go_wp2_with fail
      refine (HK2.out _ hL1.out).mono ?_
      rintro _ w2 ⟨rfl, hb2⟩
      clear cA0 cA1 cK0 cK1 cK2 cK3 cK4 cK5 cK6
      have hGA2 := hidS (blk_later hGA1.out hb2)
      have hGK2 := hidS (blk_later hGK1.out hb2)
      have hL2 := hidS (hL1.out.trans (hb2.mono hL1.out.size))
      clear hb2 hL1 hGA1 hGK1
      clear lS c2
      have cA0 := blk_cell hGA2.out 0
      have cA1 := blk_cell hGA2.out 1
      simp at cA0 cA1
      have cK0 := blk_cell hGK2.out 0
      have cK1 := blk_cell hGK2.out 1
      have cK2 := blk_cell hGK2.out 2
      have cK3 := blk_cell hGK2.out 3
      have cK4 := blk_cell hGK2.out 4
      have cK5 := blk_cell hGK2.out 5
      have cK6 := blk_cell hGK2.out 6
      simp at cK0 cK1 cK2 cK3 cK4 cK5 cK6
      go_wp2_with fail
      go_ret
      exact ⟨rfl, hL2.out⟩
    rw [hl] at HK2
    have hp : placeB s (C : Int) 2 = true := by rw [EP.out, hl, decide_eq_true (by omega : r = 1)]; simp
    rw [wk_yes (k := ⟨key, (C : Int), 2, state, slot, gen, steps⟩) hk hp ht]
    clear hp EP hk ht hl
    by_cases s1 : state = 1
    · subst s1
      have E : Hid (outB s ⟨key, (C : Int), 2, 1, slot, gen, steps⟩ = (inB s.slots.length slot && timeB gen)) := by show _ = _; unfold outB; rw [if_neg (by simp), if_pos rfl]
      rw [E.out]
      clear E
      have HA := hidS (fun W => l02Is_any slot 0 ((s.slots.length : Int) - 1) W)
      have HB := hidS (fun W => l02Time_any gen W)
      have EI : Hid ((decide (0 ≤ slot) && decide (slot ≤ (s.slots.length : Int) - 1)) = inB s.slots.length slot) := by
        show _ = _
        unfold inB
        by_cases a : slot < (s.slots.length : Int)
        · rw [decide_eq_true a, decide_eq_true (by omega : slot ≤ (s.slots.length : Int) - 1)]
        · rw [decide_eq_false a, decide_eq_false (by omega : ¬ slot ≤ (s.slots.length : Int) - 1)]
      rw [EI.out] at HA
      clear EI
      generalize inB s.slots.length slot = q1 at HA ⊢
      generalize timeB gen = q2 at HB ⊢
      cases q1
      · have hGA0 : Hid (((w.alloc (.cells #[.slice (some ⟨bS, oS, none⟩) s.slots.length cS, .slice (some ⟨bH, oH, none⟩) s.heads.length cH] 26)).alloc (.cells #[.int .i64 key, .int .i64 (C : Int), .int .i64 2, .int .i64 1, .int .i64 slot, .int .i64 gen, .int .i64 steps] 30)).heap[w.heap.size]? = some (.cells #[.slice (some ⟨bS, oS, none⟩) s.slots.length cS, .slice (some ⟨bH, oH, none⟩) s.heads.length cH] 26)) := by
          show _ = _
          have := blk_alloc (heap_newG w (.cells #[.slice (some ⟨bS, oS, none⟩) s.slots.length cS, .slice (some ⟨bH, oH, none⟩) s.heads.length cH] 26)) (.cells #[.int .i64 key, .int .i64 (C : Int), .int .i64 2, .int .i64 1, .int .i64 slot, .int .i64 gen, .int .i64 steps] 30)
          simpa using this
        have hGK0 : Hid (((w.alloc (.cells #[.slice (some ⟨bS, oS, none⟩) s.slots.length cS, .slice (some ⟨bH, oH, none⟩) s.heads.length cH] 26)).alloc (.cells #[.int .i64 key, .int .i64 (C : Int), .int .i64 2, .int .i64 1, .int .i64 slot, .int .i64 gen, .int .i64 steps] 30)).heap[w.heap.size + 1]? = some (.cells #[.int .i64 key, .int .i64 (C : Int), .int .i64 2, .int .i64 1, .int .i64 slot, .int .i64 gen, .int .i64 steps] 30)) := by
          show _ = _
          have := heap_newG (w.alloc (.cells #[.slice (some ⟨bS, oS, none⟩) s.slots.length cS, .slice (some ⟨bH, oH, none⟩) s.heads.length cH] 26)) (.cells #[.int .i64 key, .int .i64 (C : Int), .int .i64 2, .int .i64 1, .int .i64 slot, .int .i64 gen, .int .i64 steps] 30)
          simpa using this
        have hL0 := hidS (((Below.refl w.heap.size w).alloc (Nat.le_refl _) (.cells #[.slice (some ⟨bS, oS, none⟩) s.slots.length cS, .slice (some ⟨bH, oH, none⟩) s.heads.length cH] 26)).alloc (by simp) (.cells #[.int .i64 key, .int .i64 (C : Int), .int .i64 2, .int .i64 1, .int .i64 slot, .int .i64 gen, .int .i64 steps] 30))
        go_enter Try.func65, Try.ntmps65
        go_wp2_with fail
        refine (HK.out _).mono ?_
        rintro _ v9 ⟨rfl, hv9⟩
        rw [hv9]
        clear hv9 v9
        go_wp2_with fail
        refine (HN.out _).mono ?_
        rintro _ w1 ⟨rfl, hb1⟩
        have hGA1 := hidS (blk_later hGA0.out hb1)
        have hGK1 := hidS (blk_later hGK0.out hb1)
        have hL1 := hidS (hL0.out.trans (hb1.mono hL0.out.size))
        clear hb1 hL0 hGA0 hGK0
        have cA0 := blk_cell hGA1.out 0
        have cA1 := blk_cell hGA1.out 1
        simp at cA0 cA1
        have cK0 := blk_cell hGK1.out 0
        have cK1 := blk_cell hGK1.out 1
        have cK2 := blk_cell hGK1.out 2
        have cK3 := blk_cell hGK1.out 3
        have cK4 := blk_cell hGK1.out 4
        have cK5 := blk_cell hGK1.out 5
        have cK6 := blk_cell hGK1.out 6
        simp at cK0 cK1 cK2 cK3 cK4 cK5 cK6
        go_wp2_with fail
        refine (HI.out _).mono ?_
        rintro _ v9 ⟨rfl, hv9⟩
        rw [hv9]
        clear hv9 v9
        go_wp2_with fail
        refine (HJ.out _).mono ?_
        rintro _ v9 ⟨rfl, hv9⟩
        rw [hv9]
        clear hv9 v9
        go_wp2_with fail
        refine (HT.out _).mono ?_
        rintro _ v9 ⟨rfl, hv9⟩
        rw [hv9]
        clear hv9 v9
        obtain ⟨lS, c2⟩ := HSL.out _ hL1.out
        go_wp2_with fail
        refine (HK2.out _ hL1.out).mono ?_
        rintro _ w2 ⟨rfl, hb2⟩
        clear cA0 cA1 cK0 cK1 cK2 cK3 cK4 cK5 cK6
        have hGA2 := hidS (blk_later hGA1.out hb2)
        have hGK2 := hidS (blk_later hGK1.out hb2)
        have hL2 := hidS (hL1.out.trans (hb2.mono hL1.out.size))
        clear hb2 hL1 hGA1 hGK1
        clear lS c2
        have cA0 := blk_cell hGA2.out 0
        have cA1 := blk_cell hGA2.out 1
        simp at cA0 cA1
        have cK0 := blk_cell hGK2.out 0
        have cK1 := blk_cell hGK2.out 1
        have cK2 := blk_cell hGK2.out 2
        have cK3 := blk_cell hGK2.out 3
        have cK4 := blk_cell hGK2.out 4
        have cK5 := blk_cell hGK2.out 5
        have cK6 := blk_cell hGK2.out 6
        simp at cK0 cK1 cK2 cK3 cK4 cK5 cK6
        go_wp2_with fail
        refine (HA.out _).mono ?_
        rintro _ v9 ⟨rfl, hv9⟩
        rw [hv9]
        clear hv9 v9
        go_wp2_with fail
        go_ret
        exact ⟨by simp, hL2.out⟩
      · have hGA0 : Hid (((w.alloc (.cells #[.slice (some ⟨bS, oS, none⟩) s.slots.length cS, .slice (some ⟨bH, oH, none⟩) s.heads.length cH] 26)).alloc (.cells #[.int .i64 key, .int .i64 (C : Int), .int .i64 2, .int .i64 1, .int .i64 slot, .int .i64 gen, .int .i64 steps] 30)).heap[w.heap.size]? = some (.cells #[.slice (some ⟨bS, oS, none⟩) s.slots.length cS, .slice (some ⟨bH, oH, none⟩) s.heads.length cH] 26)) := by
          show _ = _
          have := blk_alloc (heap_newG w (.cells #[.slice (some ⟨bS, oS, none⟩) s.slots.length cS, .slice (some ⟨bH, oH, none⟩) s.heads.length cH] 26)) (.cells #[.int .i64 key, .int .i64 (C : Int), .int .i64 2, .int .i64 1, .int .i64 slot, .int .i64 gen, .int .i64 steps] 30)
          simpa using this
        have hGK0 : Hid (((w.alloc (.cells #[.slice (some ⟨bS, oS, none⟩) s.slots.length cS, .slice (some ⟨bH, oH, none⟩) s.heads.length cH] 26)).alloc (.cells #[.int .i64 key, .int .i64 (C : Int), .int .i64 2, .int .i64 1, .int .i64 slot, .int .i64 gen, .int .i64 steps] 30)).heap[w.heap.size + 1]? = some (.cells #[.int .i64 key, .int .i64 (C : Int), .int .i64 2, .int .i64 1, .int .i64 slot, .int .i64 gen, .int .i64 steps] 30)) := by
          show _ = _
          have := heap_newG (w.alloc (.cells #[.slice (some ⟨bS, oS, none⟩) s.slots.length cS, .slice (some ⟨bH, oH, none⟩) s.heads.length cH] 26)) (.cells #[.int .i64 key, .int .i64 (C : Int), .int .i64 2, .int .i64 1, .int .i64 slot, .int .i64 gen, .int .i64 steps] 30)
          simpa using this
        have hL0 := hidS (((Below.refl w.heap.size w).alloc (Nat.le_refl _) (.cells #[.slice (some ⟨bS, oS, none⟩) s.slots.length cS, .slice (some ⟨bH, oH, none⟩) s.heads.length cH] 26)).alloc (by simp) (.cells #[.int .i64 key, .int .i64 (C : Int), .int .i64 2, .int .i64 1, .int .i64 slot, .int .i64 gen, .int .i64 steps] 30))
        go_enter Try.func65, Try.ntmps65
        go_wp2_with fail
        refine (HK.out _).mono ?_
        rintro _ v9 ⟨rfl, hv9⟩
        rw [hv9]
        clear hv9 v9
        go_wp2_with fail
        refine (HN.out _).mono ?_
        rintro _ w1 ⟨rfl, hb1⟩
        have hGA1 := hidS (blk_later hGA0.out hb1)
        have hGK1 := hidS (blk_later hGK0.out hb1)
        have hL1 := hidS (hL0.out.trans (hb1.mono hL0.out.size))
        clear hb1 hL0 hGA0 hGK0
        have cA0 := blk_cell hGA1.out 0
        have cA1 := blk_cell hGA1.out 1
        simp at cA0 cA1
        have cK0 := blk_cell hGK1.out 0
        have cK1 := blk_cell hGK1.out 1
        have cK2 := blk_cell hGK1.out 2
        have cK3 := blk_cell hGK1.out 3
        have cK4 := blk_cell hGK1.out 4
        have cK5 := blk_cell hGK1.out 5
        have cK6 := blk_cell hGK1.out 6
        simp at cK0 cK1 cK2 cK3 cK4 cK5 cK6
        go_wp2_with fail
        refine (HI.out _).mono ?_
        rintro _ v9 ⟨rfl, hv9⟩
        rw [hv9]
        clear hv9 v9
        go_wp2_with fail
        refine (HJ.out _).mono ?_
        rintro _ v9 ⟨rfl, hv9⟩
        rw [hv9]
        clear hv9 v9
        go_wp2_with fail
        refine (HT.out _).mono ?_
        rintro _ v9 ⟨rfl, hv9⟩
        rw [hv9]
        clear hv9 v9
        obtain ⟨lS, c2⟩ := HSL.out _ hL1.out
        go_wp2_with fail
        refine (HK2.out _ hL1.out).mono ?_
        rintro _ w2 ⟨rfl, hb2⟩
        clear cA0 cA1 cK0 cK1 cK2 cK3 cK4 cK5 cK6
        have hGA2 := hidS (blk_later hGA1.out hb2)
        have hGK2 := hidS (blk_later hGK1.out hb2)
        have hL2 := hidS (hL1.out.trans (hb2.mono hL1.out.size))
        clear hb2 hL1 hGA1 hGK1
        clear lS c2
        have cA0 := blk_cell hGA2.out 0
        have cA1 := blk_cell hGA2.out 1
        simp at cA0 cA1
        have cK0 := blk_cell hGK2.out 0
        have cK1 := blk_cell hGK2.out 1
        have cK2 := blk_cell hGK2.out 2
        have cK3 := blk_cell hGK2.out 3
        have cK4 := blk_cell hGK2.out 4
        have cK5 := blk_cell hGK2.out 5
        have cK6 := blk_cell hGK2.out 6
        simp at cK0 cK1 cK2 cK3 cK4 cK5 cK6
        go_wp2_with fail
        refine (HA.out _).mono ?_
        rintro _ v9 ⟨rfl, hv9⟩
        rw [hv9]
        clear hv9 v9
        go_wp2_with fail
        refine (HB.out _).mono ?_
        rintro _ v9 ⟨rfl, hv9⟩
        rw [hv9]
        clear hv9 v9
        go_wp2_with fail
        go_ret
        exact ⟨by simp, hL2.out⟩
    have bs : (state == 1) = false := beq_eq_false_iff_ne.2 s1
    have E : Hid (outB s ⟨key, (C : Int), 2, state, slot, gen, steps⟩ = (decide (slot = 0) && decide (gen = 0))) := by show _ = _; unfold outB; rw [if_pos (hse s1)]
    rw [E.out]
    clear E
    by_cases z : slot = 0
    · subst z
      have E : Hid ((decide ((0 : Int) = 0) && decide (gen = 0)) = (gen == 0)) := by show _ = _; by_cases h : gen = 0 <;> simp [h]
      rw [E.out]
      clear E
      have hGA0 : Hid (((w.alloc (.cells #[.slice (some ⟨bS, oS, none⟩) s.slots.length cS, .slice (some ⟨bH, oH, none⟩) s.heads.length cH] 26)).alloc (.cells #[.int .i64 key, .int .i64 (C : Int), .int .i64 2, .int .i64 state, .int .i64 0, .int .i64 gen, .int .i64 steps] 30)).heap[w.heap.size]? = some (.cells #[.slice (some ⟨bS, oS, none⟩) s.slots.length cS, .slice (some ⟨bH, oH, none⟩) s.heads.length cH] 26)) := by
        show _ = _
        have := blk_alloc (heap_newG w (.cells #[.slice (some ⟨bS, oS, none⟩) s.slots.length cS, .slice (some ⟨bH, oH, none⟩) s.heads.length cH] 26)) (.cells #[.int .i64 key, .int .i64 (C : Int), .int .i64 2, .int .i64 state, .int .i64 0, .int .i64 gen, .int .i64 steps] 30)
        simpa using this
      have hGK0 : Hid (((w.alloc (.cells #[.slice (some ⟨bS, oS, none⟩) s.slots.length cS, .slice (some ⟨bH, oH, none⟩) s.heads.length cH] 26)).alloc (.cells #[.int .i64 key, .int .i64 (C : Int), .int .i64 2, .int .i64 state, .int .i64 0, .int .i64 gen, .int .i64 steps] 30)).heap[w.heap.size + 1]? = some (.cells #[.int .i64 key, .int .i64 (C : Int), .int .i64 2, .int .i64 state, .int .i64 0, .int .i64 gen, .int .i64 steps] 30)) := by
        show _ = _
        have := heap_newG (w.alloc (.cells #[.slice (some ⟨bS, oS, none⟩) s.slots.length cS, .slice (some ⟨bH, oH, none⟩) s.heads.length cH] 26)) (.cells #[.int .i64 key, .int .i64 (C : Int), .int .i64 2, .int .i64 state, .int .i64 0, .int .i64 gen, .int .i64 steps] 30)
        simpa using this
      have hL0 := hidS (((Below.refl w.heap.size w).alloc (Nat.le_refl _) (.cells #[.slice (some ⟨bS, oS, none⟩) s.slots.length cS, .slice (some ⟨bH, oH, none⟩) s.heads.length cH] 26)).alloc (by simp) (.cells #[.int .i64 key, .int .i64 (C : Int), .int .i64 2, .int .i64 state, .int .i64 0, .int .i64 gen, .int .i64 steps] 30))
      go_enter Try.func65, Try.ntmps65
      go_wp2_with fail
      refine (HK.out _).mono ?_
      rintro _ v9 ⟨rfl, hv9⟩
      rw [hv9]
      clear hv9 v9
      go_wp2_with fail
      refine (HN.out _).mono ?_
      rintro _ w1 ⟨rfl, hb1⟩
      have hGA1 := hidS (blk_later hGA0.out hb1)
      have hGK1 := hidS (blk_later hGK0.out hb1)
      have hL1 := hidS (hL0.out.trans (hb1.mono hL0.out.size))
      clear hb1 hL0 hGA0 hGK0
      have cA0 := blk_cell hGA1.out 0
      have cA1 := blk_cell hGA1.out 1
      simp at cA0 cA1
      have cK0 := blk_cell hGK1.out 0
      have cK1 := blk_cell hGK1.out 1
      have cK2 := blk_cell hGK1.out 2
      have cK3 := blk_cell hGK1.out 3
      have cK4 := blk_cell hGK1.out 4
      have cK5 := blk_cell hGK1.out 5
      have cK6 := blk_cell hGK1.out 6
      simp at cK0 cK1 cK2 cK3 cK4 cK5 cK6
      go_wp2_with fail
      refine (HI.out _).mono ?_
      rintro _ v9 ⟨rfl, hv9⟩
      rw [hv9]
      clear hv9 v9
      go_wp2_with fail
      refine (HJ.out _).mono ?_
      rintro _ v9 ⟨rfl, hv9⟩
      rw [hv9]
      clear hv9 v9
      go_wp2_with fail
      refine (HT.out _).mono ?_
      rintro _ v9 ⟨rfl, hv9⟩
      rw [hv9]
      clear hv9 v9
      obtain ⟨lS, c2⟩ := HSL.out _ hL1.out
      go_wp2_with fail
      refine (HK2.out _ hL1.out).mono ?_
      rintro _ w2 ⟨rfl, hb2⟩
      clear cA0 cA1 cK0 cK1 cK2 cK3 cK4 cK5 cK6
      have hGA2 := hidS (blk_later hGA1.out hb2)
      have hGK2 := hidS (blk_later hGK1.out hb2)
      have hL2 := hidS (hL1.out.trans (hb2.mono hL1.out.size))
      clear hb2 hL1 hGA1 hGK1
      clear lS c2
      have cA0 := blk_cell hGA2.out 0
      have cA1 := blk_cell hGA2.out 1
      simp at cA0 cA1
      have cK0 := blk_cell hGK2.out 0
      have cK1 := blk_cell hGK2.out 1
      have cK2 := blk_cell hGK2.out 2
      have cK3 := blk_cell hGK2.out 3
      have cK4 := blk_cell hGK2.out 4
      have cK5 := blk_cell hGK2.out 5
      have cK6 := blk_cell hGK2.out 6
      simp at cK0 cK1 cK2 cK3 cK4 cK5 cK6
      go_wp2_with fail
      go_ret
      exact ⟨rfl, hL2.out⟩
    · have bz : (slot == 0) = false := beq_eq_false_iff_ne.2 z
      have E : Hid ((decide (slot = 0) && decide (gen = 0)) = false) := by show _ = _; simp [z]
      rw [E.out]
      clear E
      have hGA0 : Hid (((w.alloc (.cells #[.slice (some ⟨bS, oS, none⟩) s.slots.length cS, .slice (some ⟨bH, oH, none⟩) s.heads.length cH] 26)).alloc (.cells #[.int .i64 key, .int .i64 (C : Int), .int .i64 2, .int .i64 state, .int .i64 slot, .int .i64 gen, .int .i64 steps] 30)).heap[w.heap.size]? = some (.cells #[.slice (some ⟨bS, oS, none⟩) s.slots.length cS, .slice (some ⟨bH, oH, none⟩) s.heads.length cH] 26)) := by
        show _ = _
        have := blk_alloc (heap_newG w (.cells #[.slice (some ⟨bS, oS, none⟩) s.slots.length cS, .slice (some ⟨bH, oH, none⟩) s.heads.length cH] 26)) (.cells #[.int .i64 key, .int .i64 (C : Int), .int .i64 2, .int .i64 state, .int .i64 slot, .int .i64 gen, .int .i64 steps] 30)
        simpa using this
      have hGK0 : Hid (((w.alloc (.cells #[.slice (some ⟨bS, oS, none⟩) s.slots.length cS, .slice (some ⟨bH, oH, none⟩) s.heads.length cH] 26)).alloc (.cells #[.int .i64 key, .int .i64 (C : Int), .int .i64 2, .int .i64 state, .int .i64 slot, .int .i64 gen, .int .i64 steps] 30)).heap[w.heap.size + 1]? = some (.cells #[.int .i64 key, .int .i64 (C : Int), .int .i64 2, .int .i64 state, .int .i64 slot, .int .i64 gen, .int .i64 steps] 30)) := by
        show _ = _
        have := heap_newG (w.alloc (.cells #[.slice (some ⟨bS, oS, none⟩) s.slots.length cS, .slice (some ⟨bH, oH, none⟩) s.heads.length cH] 26)) (.cells #[.int .i64 key, .int .i64 (C : Int), .int .i64 2, .int .i64 state, .int .i64 slot, .int .i64 gen, .int .i64 steps] 30)
        simpa using this
      have hL0 := hidS (((Below.refl w.heap.size w).alloc (Nat.le_refl _) (.cells #[.slice (some ⟨bS, oS, none⟩) s.slots.length cS, .slice (some ⟨bH, oH, none⟩) s.heads.length cH] 26)).alloc (by simp) (.cells #[.int .i64 key, .int .i64 (C : Int), .int .i64 2, .int .i64 state, .int .i64 slot, .int .i64 gen, .int .i64 steps] 30))
      go_enter Try.func65, Try.ntmps65
      go_wp2_with fail
      refine (HK.out _).mono ?_
      rintro _ v9 ⟨rfl, hv9⟩
      rw [hv9]
      clear hv9 v9
      go_wp2_with fail
      refine (HN.out _).mono ?_
      rintro _ w1 ⟨rfl, hb1⟩
      have hGA1 := hidS (blk_later hGA0.out hb1)
      have hGK1 := hidS (blk_later hGK0.out hb1)
      have hL1 := hidS (hL0.out.trans (hb1.mono hL0.out.size))
      clear hb1 hL0 hGA0 hGK0
      have cA0 := blk_cell hGA1.out 0
      have cA1 := blk_cell hGA1.out 1
      simp at cA0 cA1
      have cK0 := blk_cell hGK1.out 0
      have cK1 := blk_cell hGK1.out 1
      have cK2 := blk_cell hGK1.out 2
      have cK3 := blk_cell hGK1.out 3
      have cK4 := blk_cell hGK1.out 4
      have cK5 := blk_cell hGK1.out 5
      have cK6 := blk_cell hGK1.out 6
      simp at cK0 cK1 cK2 cK3 cK4 cK5 cK6
      go_wp2_with fail
      refine (HI.out _).mono ?_
      rintro _ v9 ⟨rfl, hv9⟩
      rw [hv9]
      clear hv9 v9
      go_wp2_with fail
      refine (HJ.out _).mono ?_
      rintro _ v9 ⟨rfl, hv9⟩
      rw [hv9]
      clear hv9 v9
      go_wp2_with fail
      refine (HT.out _).mono ?_
      rintro _ v9 ⟨rfl, hv9⟩
      rw [hv9]
      clear hv9 v9
      obtain ⟨lS, c2⟩ := HSL.out _ hL1.out
      go_wp2_with fail
      refine (HK2.out _ hL1.out).mono ?_
      rintro _ w2 ⟨rfl, hb2⟩
      clear cA0 cA1 cK0 cK1 cK2 cK3 cK4 cK5 cK6
      have hGA2 := hidS (blk_later hGA1.out hb2)
      have hGK2 := hidS (blk_later hGK1.out hb2)
      have hL2 := hidS (hL1.out.trans (hb2.mono hL1.out.size))
      clear hb2 hL1 hGA1 hGK1
      clear lS c2
      have cA0 := blk_cell hGA2.out 0
      have cA1 := blk_cell hGA2.out 1
      simp at cA0 cA1
      have cK0 := blk_cell hGK2.out 0
      have cK1 := blk_cell hGK2.out 1
      have cK2 := blk_cell hGK2.out 2
      have cK3 := blk_cell hGK2.out 3
      have cK4 := blk_cell hGK2.out 4
      have cK5 := blk_cell hGK2.out 5
      have cK6 := blk_cell hGK2.out 6
      simp at cK0 cK1 cK2 cK3 cK4 cK5 cK6
      go_wp2_with fail
      go_ret
      exact ⟨rfl, hL2.out⟩
set_option maxHeartbeats 4000000 in
theorem specWalkRight_any (aS aH : Option Addr) (cS cH : Nat) (s : Slb) (k : Wlk) (w : World) (hR : SlabZ aS aH s w) (h1 : s.slots.length ≤ 1048576) (h2 : s.heads.length ≤ 1048576) :
    Calls Try.prog 17 #[.agg #[.slice aS s.slots.length cS, .slice aH s.heads.length cH], .agg #[.int .i64 k.key, .int .i64 k.cur, .int .i64 k.stage, .int .i64 k.state, .int .i64 k.slot, .int .i64 k.gen, .int .i64 k.steps]] w fun e w' => e = .returned (.bool (wkRight s k)) ∧ Below w.heap.size w w' := by
  have HS := hidS (fun W (h : Below w.heap.size w W) => specSlabRight_any aS aH cS cH s W (hR.later h) h1 h2)
  cases hr : rightSl s
  · have E : Hid (wkRight s k = false) := by show _ = _; unfold wkRight; rw [hr]; rfl
    rw [E.out]
    rw [hr] at HS
    clear E hR hr
    have hGA0 : Hid (((w.alloc (.cells #[.slice aS s.slots.length cS, .slice aH s.heads.length cH] 26)).alloc (.cells #[.int .i64 k.key, .int .i64 k.cur, .int .i64 k.stage, .int .i64 k.state, .int .i64 k.slot, .int .i64 k.gen, .int .i64 k.steps] 30)).heap[w.heap.size]? = some (.cells #[.slice aS s.slots.length cS, .slice aH s.heads.length cH] 26)) := by
      show _ = _
      have := blk_alloc (heap_newG w (.cells #[.slice aS s.slots.length cS, .slice aH s.heads.length cH] 26)) (.cells #[.int .i64 k.key, .int .i64 k.cur, .int .i64 k.stage, .int .i64 k.state, .int .i64 k.slot, .int .i64 k.gen, .int .i64 k.steps] 30)
      simpa using this
    have hGK0 : Hid (((w.alloc (.cells #[.slice aS s.slots.length cS, .slice aH s.heads.length cH] 26)).alloc (.cells #[.int .i64 k.key, .int .i64 k.cur, .int .i64 k.stage, .int .i64 k.state, .int .i64 k.slot, .int .i64 k.gen, .int .i64 k.steps] 30)).heap[w.heap.size + 1]? = some (.cells #[.int .i64 k.key, .int .i64 k.cur, .int .i64 k.stage, .int .i64 k.state, .int .i64 k.slot, .int .i64 k.gen, .int .i64 k.steps] 30)) := by
      show _ = _
      have := heap_newG (w.alloc (.cells #[.slice aS s.slots.length cS, .slice aH s.heads.length cH] 26)) (.cells #[.int .i64 k.key, .int .i64 k.cur, .int .i64 k.stage, .int .i64 k.state, .int .i64 k.slot, .int .i64 k.gen, .int .i64 k.steps] 30)
      simpa using this
    have hL0 := hidS (((Below.refl w.heap.size w).alloc (Nat.le_refl _) (.cells #[.slice aS s.slots.length cS, .slice aH s.heads.length cH] 26)).alloc (by simp) (.cells #[.int .i64 k.key, .int .i64 k.cur, .int .i64 k.stage, .int .i64 k.state, .int .i64 k.slot, .int .i64 k.gen, .int .i64 k.steps] 30))
    go_enter Try.func17, Try.ntmps17
    go_wp2_with fail
    refine (HS.out _ hL0.out).mono ?_
    rintro _ w1 ⟨rfl, hb1⟩
    have hGA1 := hidS (blk_later hGA0.out hb1)
    have hGK1 := hidS (blk_later hGK0.out hb1)
    have hL1 := hidS (hL0.out.trans (hb1.mono hL0.out.size))
    clear hb1 hL0 hGA0 hGK0
    have cA0 := blk_cell hGA1.out 0
    have cA1 := blk_cell hGA1.out 1
    simp at cA0 cA1
    have cK0 := blk_cell hGK1.out 0
    have cK1 := blk_cell hGK1.out 1
    have cK2 := blk_cell hGK1.out 2
    have cK3 := blk_cell hGK1.out 3
    have cK4 := blk_cell hGK1.out 4
    have cK5 := blk_cell hGK1.out 5
    have cK6 := blk_cell hGK1.out 6
    simp at cK0 cK1 cK2 cK3 cK4 cK5 cK6
    go_wp2_with fail
    go_ret
    exact ⟨rfl, hL1.out⟩
  rw [hr] at HS
  obtain ⟨_, n1, n2, n3, n4⟩ := right_leads hr
  obtain ⟨bS, oS, rfl, _⟩ := hR.slots.slot (i := 0) (by omega)
  obtain ⟨bH, oH, rfl, _⟩ := hR.heads 0 (by omega)
  have HP := hidS (fun W (h : Below w.heap.size w W) => l07Right_any bS oS bH oH cS cH s k W (hR.later h) hr)
  have E : Hid (wkRight s k = wkR s k) := by show _ = _; unfold wkRight; rw [hr]; rfl
  rw [E.out]
  clear E hR hr
  generalize wkR s k = q at HP ⊢
  have hGA0 : Hid (((w.alloc (.cells #[.slice (some ⟨bS, oS, none⟩) s.slots.length cS, .slice (some ⟨bH, oH, none⟩) s.heads.length cH] 26)).alloc (.cells #[.int .i64 k.key, .int .i64 k.cur, .int .i64 k.stage, .int .i64 k.state, .int .i64 k.slot, .int .i64 k.gen, .int .i64 k.steps] 30)).heap[w.heap.size]? = some (.cells #[.slice (some ⟨bS, oS, none⟩) s.slots.length cS, .slice (some ⟨bH, oH, none⟩) s.heads.length cH] 26)) := by
    show _ = _
    have := blk_alloc (heap_newG w (.cells #[.slice (some ⟨bS, oS, none⟩) s.slots.length cS, .slice (some ⟨bH, oH, none⟩) s.heads.length cH] 26)) (.cells #[.int .i64 k.key, .int .i64 k.cur, .int .i64 k.stage, .int .i64 k.state, .int .i64 k.slot, .int .i64 k.gen, .int .i64 k.steps] 30)
    simpa using this
  have hGK0 : Hid (((w.alloc (.cells #[.slice (some ⟨bS, oS, none⟩) s.slots.length cS, .slice (some ⟨bH, oH, none⟩) s.heads.length cH] 26)).alloc (.cells #[.int .i64 k.key, .int .i64 k.cur, .int .i64 k.stage, .int .i64 k.state, .int .i64 k.slot, .int .i64 k.gen, .int .i64 k.steps] 30)).heap[w.heap.size + 1]? = some (.cells #[.int .i64 k.key, .int .i64 k.cur, .int .i64 k.stage, .int .i64 k.state, .int .i64 k.slot, .int .i64 k.gen, .int .i64 k.steps] 30)) := by
    show _ = _
    have := heap_newG (w.alloc (.cells #[.slice (some ⟨bS, oS, none⟩) s.slots.length cS, .slice (some ⟨bH, oH, none⟩) s.heads.length cH] 26)) (.cells #[.int .i64 k.key, .int .i64 k.cur, .int .i64 k.stage, .int .i64 k.state, .int .i64 k.slot, .int .i64 k.gen, .int .i64 k.steps] 30)
    simpa using this
  have hL0 := hidS (((Below.refl w.heap.size w).alloc (Nat.le_refl _) (.cells #[.slice (some ⟨bS, oS, none⟩) s.slots.length cS, .slice (some ⟨bH, oH, none⟩) s.heads.length cH] 26)).alloc (by simp) (.cells #[.int .i64 k.key, .int .i64 k.cur, .int .i64 k.stage, .int .i64 k.state, .int .i64 k.slot, .int .i64 k.gen, .int .i64 k.steps] 30))
  go_enter Try.func17, Try.ntmps17
  go_wp2_with fail
  refine (HS.out _ hL0.out).mono ?_
  rintro _ w1 ⟨rfl, hb1⟩
  have hGA1 := hidS (blk_later hGA0.out hb1)
  have hGK1 := hidS (blk_later hGK0.out hb1)
  have hL1 := hidS (hL0.out.trans (hb1.mono hL0.out.size))
  clear hb1 hL0 hGA0 hGK0
  have cA0 := blk_cell hGA1.out 0
  have cA1 := blk_cell hGA1.out 1
  simp at cA0 cA1
  have cK0 := blk_cell hGK1.out 0
  have cK1 := blk_cell hGK1.out 1
  have cK2 := blk_cell hGK1.out 2
  have cK3 := blk_cell hGK1.out 3
  have cK4 := blk_cell hGK1.out 4
  have cK5 := blk_cell hGK1.out 5
  have cK6 := blk_cell hGK1.out 6
  simp at cK0 cK1 cK2 cK3 cK4 cK5 cK6
  go_wp2_with fail
  refine (HP.out _ hL1.out).mono ?_
  rintro _ w2 ⟨rfl, hb2⟩
  clear cA0 cA1 cK0 cK1 cK2 cK3 cK4 cK5 cK6
  have hGA2 := hidS (blk_later hGA1.out hb2)
  have hGK2 := hidS (blk_later hGK1.out hb2)
  have hL2 := hidS (hL1.out.trans (hb2.mono hL1.out.size))
  clear hb2 hL1 hGA1 hGK1
  have cA0 := blk_cell hGA2.out 0
  have cA1 := blk_cell hGA2.out 1
  simp at cA0 cA1
  have cK0 := blk_cell hGK2.out 0
  have cK1 := blk_cell hGK2.out 1
  have cK2 := blk_cell hGK2.out 2
  have cK3 := blk_cell hGK2.out 3
  have cK4 := blk_cell hGK2.out 4
  have cK5 := blk_cell hGK2.out 5
  have cK6 := blk_cell hGK2.out 6
  simp at cK0 cK1 cK2 cK3 cK4 cK5 cK6
  go_wp2_with fail
  go_ret
  exact ⟨by simp, hL2.out⟩
end Go.Proofs.Ytfjgofmjhccdkaa
