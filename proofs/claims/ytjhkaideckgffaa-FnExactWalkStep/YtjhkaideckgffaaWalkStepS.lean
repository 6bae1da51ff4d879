/- Proved here: spec.WalkStep answers as the plain function, in memory of their own; all old memory stays (conditions: the slab's rows can be read; at most 2^20 numbers). -/
import Derived.Test.YtjhkaideckgffaaWalkS2
import Derived.Test.YtjhkaideckgffaaAll39
import Derived.Test.YtjhkaideckgffaaSlabCopyS
import Derived.Test.YtjhkaideckgffaaGrowLast
namespace Go.Proofs.Ytjhkaideckgffaa
open Go.ChangeShapes Go.WideShapes Go.ChangeAt Go.RowKit
set_option linter.unusedVariables false
set_option linter.unusedSimpArgs false
set_option maxRecDepth 100000

set_option maxHeartbeats 4000000 in
theorem specWalkStep_any (aS aH : Option Addr) (cS cH : Nat) (s : Slb) (k : Wlk) (w : World) (hR : SlabZ aS aH s w) (h1 : s.slots.length ≤ 1048576) (h2 : s.heads.length ≤ 1048576) :
    Calls Try.prog 19 #[.agg #[.slice aS s.slots.length cS, .slice aH s.heads.length cH], .agg #[.int .i64 k.key, .int .i64 k.cur, .int .i64 k.stage, .int .i64 k.state, .int .i64 k.slot, .int .i64 k.gen, .int .i64 k.steps]] w fun e w' => WkAns (stepWS s k) (stepWW s k) (stepC s k) w e w' := by
  have HC := hidS (fun W (h : Below w.heap.size w W) => l07Code_any aS aH cS cH s k W (hR.later h) h1 h2)
  by_cases hc : stepC s k = 0
  case neg =>
    have E1 : stepWS s k = ⟨[], []⟩ := by unfold stepWS; rw [if_neg hc]
    have E2 : stepWW s k = zeroW := by unfold stepWW; rw [if_neg hc]
    rw [E1, E2]
    generalize stepC s k = c at HC hc ⊢
    have hcb : (c == 0) = false := beq_eq_false_iff_ne.2 hc
    have HI := hidS (fun W => l07Ill_any c W)
    refine Calls.mono (R := fun e w' => e = .returned (.agg #[.slice none 0 0, .slice none 0 0, .int .i64 0, .int .i64 0, .int .i64 0, .int .i64 0, .int .i64 0, .int .i64 0, .int .i64 0, .int .i64 c]) ∧ Below w.heap.size w w') ?_ (fun e x h => ill_walk h)
    clear E1 E2 hR
    have hGA0 : Hid ((((w.alloc (.cells #[.slice aS s.slots.length cS, .slice aH s.heads.length cH] 32)).alloc (.cells #[.int .i64 k.key, .int .i64 k.cur, .int .i64 k.stage, .int .i64 k.state, .int .i64 k.slot, .int .i64 k.gen, .int .i64 k.steps] 34)).alloc (.cells #[.slice none 0 0, .slice none 0 0, .int .i64 0, .int .i64 0, .int .i64 0, .int .i64 0, .int .i64 0, .int .i64 0, .int .i64 0, .int .i64 0] 39)).heap[w.heap.size]? = some (.cells #[.slice aS s.slots.length cS, .slice aH s.heads.length cH] 32)) := by
      show _ = _
      have := blk_alloc (blk_alloc (heap_newG w (.cells #[.slice aS s.slots.length cS, .slice aH s.heads.length cH] 32)) (.cells #[.int .i64 k.key, .int .i64 k.cur, .int .i64 k.stage, .int .i64 k.state, .int .i64 k.slot, .int .i64 k.gen, .int .i64 k.steps] 34)) (.cells #[.slice none 0 0, .slice none 0 0, .int .i64 0, .int .i64 0, .int .i64 0, .int .i64 0, .int .i64 0, .int .i64 0, .int .i64 0, .int .i64 0] 39)
      simpa using this
    have hGK0 : Hid ((((w.alloc (.cells #[.slice aS s.slots.length cS, .slice aH s.heads.length cH] 32)).alloc (.cells #[.int .i64 k.key, .int .i64 k.cur, .int .i64 k.stage, .int .i64 k.state, .int .i64 k.slot, .int .i64 k.gen, .int .i64 k.steps] 34)).alloc (.cells #[.slice none 0 0, .slice none 0 0, .int .i64 0, .int .i64 0, .int .i64 0, .int .i64 0, .int .i64 0, .int .i64 0, .int .i64 0, .int .i64 0] 39)).heap[w.heap.size + 1]? = some (.cells #[.int .i64 k.key, .int .i64 k.cur, .int .i64 k.stage, .int .i64 k.state, .int .i64 k.slot, .int .i64 k.gen, .int .i64 k.steps] 34)) := by
      show _ = _
      have := blk_alloc (heap_newG (w.alloc (.cells #[.slice aS s.slots.length cS, .slice aH s.heads.length cH] 32)) (.cells #[.int .i64 k.key, .int .i64 k.cur, .int .i64 k.stage, .int .i64 k.state, .int .i64 k.slot, .int .i64 k.gen, .int .i64 k.steps] 34)) (.cells #[.slice none 0 0, .slice none 0 0, .int .i64 0, .int .i64 0, .int .i64 0, .int .i64 0, .int .i64 0, .int .i64 0, .int .i64 0, .int .i64 0] 39)
      simpa using this
    have hGR0 : Hid ((((w.alloc (.cells #[.slice aS s.slots.length cS, .slice aH s.heads.length cH] 32)).alloc (.cells #[.int .i64 k.key, .int .i64 k.cur, .int .i64 k.stage, .int .i64 k.state, .int .i64 k.slot, .int .i64 k.gen, .int .i64 k.steps] 34)).alloc (.cells #[.slice none 0 0, .slice none 0 0, .int .i64 0, .int .i64 0, .int .i64 0, .int .i64 0, .int .i64 0, .int .i64 0, .int .i64 0, .int .i64 0] 39)).heap[w.heap.size + 2]? = some (.cells #[.slice none 0 0, .slice none 0 0, .int .i64 0, .int .i64 0, .int .i64 0, .int .i64 0, .int .i64 0, .int .i64 0, .int .i64 0, .int .i64 0] 39)) := by
      show _ = _
      have := heap_newG ((w.alloc (.cells #[.slice aS s.slots.length cS, .slice aH s.heads.length cH] 32)).alloc (.cells #[.int .i64 k.key, .int .i64 k.cur, .int .i64 k.stage, .int .i64 k.state, .int .i64 k.slot, .int .i64 k.gen, .int .i64 k.steps] 34)) (.cells #[.slice none 0 0, .slice none 0 0, .int .i64 0, .int .i64 0, .int .i64 0, .int .i64 0, .int .i64 0, .int .i64 0, .int .i64 0, .int .i64 0] 39)
      simpa using this
    have hL0 := hidS ((((Below.refl w.heap.size w).alloc (Nat.le_refl _) (.cells #[.slice aS s.slots.length cS, .slice aH s.heads.length cH] 32)).alloc (by simp) (.cells #[.int .i64 k.key, .int .i64 k.cur, .int .i64 k.stage, .int .i64 k.state, .int .i64 k.slot, .int .i64 k.gen, .int .i64 k.steps] 34)).alloc (by simp; omega) (.cells #[.slice none 0 0, .slice none 0 0, .int .i64 0, .int .i64 0, .int .i64 0, .int .i64 0, .int .i64 0, .int .i64 0, .int .i64 0, .int .i64 0] 39))
    go_enter Try.func19, Try.ntmps19
    go_wp2_with fail
    refine (HC.out _ hL0.out).mono ?_
    rintro _ w1 ⟨rfl, hb1⟩
    have hGA1 := hidS (blk_later hGA0.out hb1)
    have hGK1 := hidS (blk_later hGK0.out hb1)
    have hGR1 := hidS (blk_later hGR0.out hb1)
    have hL1 := hidS (hL0.out.trans (hb1.mono hL0.out.size))
    clear hb1 hL0 hGA0 hGK0 hGR0
    go_wp2_with fail
    refine (HI.out _).mono ?_
    rintro _ w2 ⟨rfl, hb2⟩
    have hGA2 := hidS (blk_later hGA1.out hb2)
    have hGK2 := hidS (blk_later hGK1.out hb2)
    have hGR2 := hidS (blk_later hGR1.out hb2)
    have hL2 := hidS (hL1.out.trans (hb2.mono hL1.out.size))
    clear hb2 hL1 hGA1 hGK1 hGR1
    have kR := blk_cell hGR2.out
    have fR := blk_free hGR2.out
    go_wp2_with fail
    refine bodyPost_ret (v := .agg #[.slice none 0 0, .slice none 0 0, .int .i64 0, .int .i64 0, .int .i64 0, .int .i64 0, .int .i64 0, .int .i64 0, .int .i64 0, .int .i64 c]) (by simp [results, Try.results19, go_sem, *]) rfl ⟨rfl, ?_⟩
    repeat (refine below_at ?_ (by omega))
    exact hL2.out
  obtain ⟨hr, hw, hgo⟩ := stepC_ok hc
  have E1 : stepWS s k = (stepP s k).1 := by unfold stepWS; rw [if_pos hc]
  have E2 : stepWW s k = (stepP s k).2 := by unfold stepWW; rw [if_pos hc]
  rw [E1, E2, hc]
  rw [hc] at HC
  obtain ⟨_, _, eH, eS⟩ := step_key s k
  obtain ⟨_, n1, n2, n3, n4⟩ := right_leads hr
  obtain ⟨bS, oS, rfl, _⟩ := hR.slots.slot (show 0 < s.slots.length by omega)
  obtain ⟨bH, oH, rfl, _⟩ := hR.heads 0 (by omega)
  have HCP := hidS (fun W (h : Below w.heap.size w W) => l06Copy_any bS oS bH oH cS cH s W (hR.later h) n2 n4)
  have HST := hidS (fun g tb o2 c2 b3 o3 c3 W hG P Q n1 n2 => l07Step_any g tb o2 c2 b3 o3 c3 s k W hr hw hgo hG P Q n1 n2)
  have ES := hidS eS
  have EH := hidS eH
  generalize (stepP s k).1 = s' at HST ES EH ⊢
  generalize (stepP s k).2 = k' at HST ⊢
  clear E1 E2 hc hR hr hw hgo eH eS
  have hGA0 : Hid ((((w.alloc (.cells #[.slice (some ⟨bS, oS, none⟩) s.slots.length cS, .slice (some ⟨bH, oH, none⟩) s.heads.length cH] 32)).alloc (.cells #[.int .i64 k.key, .int .i64 k.cur, .int .i64 k.stage, .int .i64 k.state, .int .i64 k.slot, .int .i64 k.gen, .int .i64 k.steps] 34)).alloc (.cells #[.slice none 0 0, .slice none 0 0, .int .i64 0, .int .i64 0, .int .i64 0, .int .i64 0, .int .i64 0, .int .i64 0, .int .i64 0, .int .i64 0] 39)).heap[w.heap.size]? = some (.cells #[.slice (some ⟨bS, oS, none⟩) s.slots.length cS, .slice (some ⟨bH, oH, none⟩) s.heads.length cH] 32)) := by
    show _ = _
    have := blk_alloc (blk_alloc (heap_newG w (.cells #[.slice (some ⟨bS, oS, none⟩) s.slots.length cS, .slice (some ⟨bH, oH, none⟩) s.heads.length cH] 32)) (.cells #[.int .i64 k.key, .int .i64 k.cur, .int .i64 k.stage, .int .i64 k.state, .int .i64 k.slot, .int .i64 k.gen, .int .i64 k.steps] 34)) (.cells #[.slice none 0 0, .slice none 0 0, .int .i64 0, .int .i64 0, .int .i64 0, .int .i64 0, .int .i64 0, .int .i64 0, .int .i64 0, .int .i64 0] 39)
    simpa using this
  have hGK0 : Hid ((((w.alloc (.cells #[.slice (some ⟨bS, oS, none⟩) s.slots.length cS, .slice (some ⟨bH, oH, none⟩) s.heads.length cH] 32)).alloc (.cells #[.int .i64 k.key, .int .i64 k.cur, .int .i64 k.stage, .int .i64 k.state, .int .i64 k.slot, .int .i64 k.gen, .int .i64 k.steps] 34)).alloc (.cells #[.slice none 0 0, .slice none 0 0, .int .i64 0, .int .i64 0, .int .i64 0, .int .i64 0, .int .i64 0, .int .i64 0, .int .i64 0, .int .i64 0] 39)).heap[w.heap.size + 1]? = some (.cells #[.int .i64 k.key, .int .i64 k.cur, .int .i64 k.stage, .int .i64 k.state, .int .i64 k.slot, .int .i64 k.gen, .int .i64 k.steps] 34)) := by
    show _ = _
    have := blk_alloc (heap_newG (w.alloc (.cells #[.slice (some ⟨bS, oS, none⟩) s.slots.length cS, .slice (some ⟨bH, oH, none⟩) s.heads.length cH] 32)) (.cells #[.int .i64 k.key, .int .i64 k.cur, .int .i64 k.stage, .int .i64 k.state, .int .i64 k.slot, .int .i64 k.gen, .int .i64 k.steps] 34)) (.cells #[.slice none 0 0, .slice none 0 0, .int .i64 0, .int .i64 0, .int .i64 0, .int .i64 0, .int .i64 0, .int .i64 0, .int .i64 0, .int .i64 0] 39)
    simpa using this
  have hGR0 : Hid ((((w.alloc (.cells #[.slice (some ⟨bS, oS, none⟩) s.slots.length cS, .slice (some ⟨bH, oH, none⟩) s.heads.length cH] 32)).alloc (.cells #[.int .i64 k.key, .int .i64 k.cur, .int .i64 k.stage, .int .i64 k.state, .int .i64 k.slot, .int .i64 k.gen, .int .i64 k.steps] 34)).alloc (.cells #[.slice none 0 0, .slice none 0 0, .int .i64 0, .int .i64 0, .int .i64 0, .int .i64 0, .int .i64 0, .int .i64 0, .int .i64 0, .int .i64 0] 39)).heap[w.heap.size + 2]? = some (.cells #[.slice none 0 0, .slice none 0 0, .int .i64 0, .int .i64 0, .int .i64 0, .int .i64 0, .int .i64 0, .int .i64 0, .int .i64 0, .int .i64 0] 39)) := by
    show _ = _
    have := heap_newG ((w.alloc (.cells #[.slice (some ⟨bS, oS, none⟩) s.slots.length cS, .slice (some ⟨bH, oH, none⟩) s.heads.length cH] 32)).alloc (.cells #[.int .i64 k.key, .int .i64 k.cur, .int .i64 k.stage, .int .i64 k.state, .int .i64 k.slot, .int .i64 k.gen, .int .i64 k.steps] 34)) (.cells #[.slice none 0 0, .slice none 0 0, .int .i64 0, .int .i64 0, .int .i64 0, .int .i64 0, .int .i64 0, .int .i64 0, .int .i64 0, .int .i64 0] 39)
    simpa using this
  have hL0 := hidS ((((Below.refl w.heap.size w).alloc (Nat.le_refl _) (.cells #[.slice (some ⟨bS, oS, none⟩) s.slots.length cS, .slice (some ⟨bH, oH, none⟩) s.heads.length cH] 32)).alloc (by simp) (.cells #[.int .i64 k.key, .int .i64 k.cur, .int .i64 k.stage, .int .i64 k.state, .int .i64 k.slot, .int .i64 k.gen, .int .i64 k.steps] 34)).alloc (by simp; omega) (.cells #[.slice none 0 0, .slice none 0 0, .int .i64 0, .int .i64 0, .int .i64 0, .int .i64 0, .int .i64 0, .int .i64 0, .int .i64 0, .int .i64 0] 39))
  go_enter Try.func19, Try.ntmps19
  go_wp2_with fail
  refine (HC.out _ hL0.out).mono ?_
  rintro _ w1 ⟨rfl, hb1⟩
  have hGA1 := hidS (blk_later hGA0.out hb1)
  have hGK1 := hidS (blk_later hGK0.out hb1)
  have hGR1 := hidS (blk_later hGR0.out hb1)
  have hL1 := hidS (hL0.out.trans (hb1.mono hL0.out.size))
  clear hb1 hL0 hGA0 hGK0 hGR0
  have cA0 := blk_cell hGA1.out 0
  have cA1 := blk_cell hGA1.out 1
  simp at cA0 cA1
  go_wp2_with fail
  refine (HCP.out _ hL1.out).mono ?_
  intro e w2 hans
  obtain ⟨b2, o2, u2, b3, o3, u3, rfl, q1, q2, q3, hP, hQ, hb2⟩ := SlabAns.rows hans n1 n3
  clear hans
  clear cA0 cA1
  have hGA2 := hidS (blk_later hGA1.out hb2)
  have hGK2 := hidS (blk_later hGK1.out hb2)
  have hGR2 := hidS (blk_later hGR1.out hb2)
  have hL2 := hidS (hL1.out.trans (hb2.mono hL1.out.size))
  have lw1 := hL1.out.size
  have lR1 := blk_lt hGR1.out
  clear hb2 hL1 hGA1 hGK1 hGR1
  have lP := hP.lt
  have lQ := hQ.lt
  have P := hidS (hP.later ((Below.refl w2.heap.size w2).alloc (Nat.le_refl _) (.cells #[.slice (some ⟨b2, o2, none⟩) s.slots.length u2, .slice (some ⟨b3, o3, none⟩) s.heads.length u3] 32)))
  have Q := hidS (hQ.later ((Below.refl w2.heap.size w2).alloc (Nat.le_refl _) (.cells #[.slice (some ⟨b2, o2, none⟩) s.slots.length u2, .slice (some ⟨b3, o3, none⟩) s.heads.length u3] 32)))
  clear hP hQ
  go_upto_region 5 with fail
  have hG0 := hidS (heap_newG w2 (.cells #[.slice (some ⟨b2, o2, none⟩) s.slots.length u2, .slice (some ⟨b3, o3, none⟩) s.heads.length u3] 32))
  have lR2 := blk_lt hGR2.out
  have hGK := hidS (blk_alloc hGK2.out (.cells #[.slice (some ⟨b2, o2, none⟩) s.slots.length u2, .slice (some ⟨b3, o3, none⟩) s.heads.length u3] 32))
  have hGR := hidS (blk_alloc hGR2.out (.cells #[.slice (some ⟨b2, o2, none⟩) s.slots.length u2, .slice (some ⟨b3, o3, none⟩) s.heads.length u3] 32))
  have hL := hidS (hL2.out.alloc hL2.out.size (.cells #[.slice (some ⟨b2, o2, none⟩) s.slots.length u2, .slice (some ⟨b3, o3, none⟩) s.heads.length u3] 32))
  have lw2 := hL2.out.size
  clear hGA2 hGK2 hGR2 hL2
  generalize w2.alloc (.cells #[.slice (some ⟨b2, o2, none⟩) s.slots.length u2, .slice (some ⟨b3, o3, none⟩) s.heads.length u3] 32) = wa at P Q hG0 hGK hGR hL ⊢
  generalize w2.heap.size = g at *
  have c0 := blk_cell hGK.out 0
  have c1 := blk_cell hGK.out 1
  have c2 := blk_cell hGK.out 2
  have c3 := blk_cell hGK.out 3
  have c4 := blk_cell hGK.out 4
  have c5 := blk_cell hGK.out 5
  have c6 := blk_cell hGK.out 6
  simp at c0 c1 c2 c3 c4 c5 c6
  go_wp2_with fail
  refine (HST.out g b2 o2 u2 b3 o3 u3 _ hG0.out P.out Q.out q3 (by omega)).mono ?_
  rintro _ wb ⟨rfl, hP, hT⟩
  clear c0 c1 c2 c3 c4 c5 c6
  have lg := blk_lt hG0.out
  have hg1 := hidS (blk_tch hG0.out hT (by omega))
  have hr1 := hidS (blk_tch hGR.out hT (by omega))
  have P1 := hidS hP
  have Q1 := hidS (Q.out.touch hT (fun e => q3 e.symm))
  have hL1 := hidS (hL.out.trans (hT.below (by omega) hL.out.size))
  have hsz := hT.size
  clear hP hT P Q hG0 hGK hGR hL
  go_upto_region 6 with fail
  have hg2 := hidS (blk_alloc hg1.out (.cells #[.int .i64 k'.key, .int .i64 k'.cur, .int .i64 k'.stage, .int .i64 k'.state, .int .i64 k'.slot, .int .i64 k'.gen, .int .i64 k'.steps] 34))
  have hr2 := hidS (blk_alloc hr1.out (.cells #[.int .i64 k'.key, .int .i64 k'.cur, .int .i64 k'.stage, .int .i64 k'.state, .int .i64 k'.slot, .int .i64 k'.gen, .int .i64 k'.steps] 34))
  have hk2 := hidS (heap_newG wb (.cells #[.int .i64 k'.key, .int .i64 k'.cur, .int .i64 k'.stage, .int .i64 k'.state, .int .i64 k'.slot, .int .i64 k'.gen, .int .i64 k'.steps] 34))
  have P2 := hidS (P1.out.later ((Below.refl wb.heap.size wb).alloc (Nat.le_refl _) (.cells #[.int .i64 k'.key, .int .i64 k'.cur, .int .i64 k'.stage, .int .i64 k'.state, .int .i64 k'.slot, .int .i64 k'.gen, .int .i64 k'.steps] 34)))
  have Q2 := hidS (Q1.out.later ((Below.refl wb.heap.size wb).alloc (Nat.le_refl _) (.cells #[.int .i64 k'.key, .int .i64 k'.cur, .int .i64 k'.stage, .int .i64 k'.state, .int .i64 k'.slot, .int .i64 k'.gen, .int .i64 k'.steps] 34)))
  have hL2 := hidS (hL1.out.alloc hL1.out.size (.cells #[.int .i64 k'.key, .int .i64 k'.cur, .int .i64 k'.stage, .int .i64 k'.state, .int .i64 k'.slot, .int .i64 k'.gen, .int .i64 k'.steps] 34))
  clear hg1 hr1 P1 Q1 hL1
  generalize wb.alloc (.cells #[.int .i64 k'.key, .int .i64 k'.cur, .int .i64 k'.stage, .int .i64 k'.state, .int .i64 k'.slot, .int .i64 k'.gen, .int .i64 k'.steps] 34) = wc at hg2 hr2 hk2 P2 Q2 hL2 ⊢
  generalize wb.heap.size = g2 at *
  have c0 := blk_cell hk2.out 0
  have c1 := blk_cell hk2.out 1
  have c2 := blk_cell hk2.out 2
  have c3 := blk_cell hk2.out 3
  have c4 := blk_cell hk2.out 4
  have c5 := blk_cell hk2.out 5
  have c6 := blk_cell hk2.out 6
  simp at c0 c1 c2 c3 c4 c5 c6
  have d0 := blk_cell hg2.out 0
  have d1 := blk_cell hg2.out 1
  simp at d0 d1
  have kR := blk_cell hr2.out
  have fR := blk_free hr2.out
  have hP := P2.out
  have hQ := Q2.out
  have hLL := hL2.out
  go_wp2_with fail
  refine bodyPost_ret (v := .agg #[.slice (some ⟨b2, o2, none⟩) s.slots.length u2, .slice (some ⟨b3, o3, none⟩) s.heads.length u3, .int .i64 k'.key, .int .i64 k'.cur, .int .i64 k'.stage, .int .i64 k'.state, .int .i64 k'.slot, .int .i64 k'.gen, .int .i64 k'.steps, .int .i64 0]) (by simp [results, Try.results19, go_sem, *]) rfl ?_
  refine ⟨_, _, _, _, by rw [ES.out, EH.out], rows_own (by omega) (by omega) q3 ?_ ?_, ?_⟩
  · skip
    repeat (refine RowB.other ?_ (by omega))
    exact hP
  · rw [EH.out]
    repeat (refine RowB.other ?_ (by omega))
    exact hQ
  · repeat (refine below_at ?_ (by omega))
    exact hLL
end Go.Proofs.Ytjhkaideckgffaa
