/- Proved here: spec.WalkStep answers as the plain function, in memory of their own; all old memory stays (conditions: the slab's rows can be read; at most 2^20 numbers). · Proved here: a law on regions of guarded operations that draw their order (no program of its own): what is said of each value may hang on memory. · Proved here: nothing of a program: two rows of numbers that grow, apart from each other and from named blocks: what lasts; and how a walk's facts begin at a new walker. · Proved here: nothing of a program: how memory lies while laws.FnRace walks (a slab, a walker, two rows that grow), and what lasts. -/
import Derived.Test.YtfjgofmjhccdkaaWalkS2
import Derived.Test.YtfjgofmjhccdkaaAll31
import Derived.Test.YtfjgofmjhccdkaaSlabCopyS
import Derived.Test.YtfjgofmjhccdkaaGrow
import Derived.Test.YtfjgofmjhccdkaaAll1
import Derived.Test.YtfjgofmjhccdkaaAll20
import Derived.Test.YtfjgofmjhccdkaaAll2
import Derived.Maps.AppendAt
section
namespace Go.Proofs.Ytfjgofmjhccdkaa
open Go.ChangeShapes Go.WideShapes Go.ChangeAt Go.RowKit
set_option linter.unusedVariables false
set_option linter.unusedSimpArgs false
set_option maxRecDepth 100000

set_option maxHeartbeats 4000000 in
theorem specWalkStep_any (aS aH : Option Addr) (cS cH : Nat) (s : Slb) (k : Wlk) (w : World) (hR : SlabZ aS aH s w) (h1 : s.slots.length ≤ 1048576) (h2 : s.heads.length ≤ 1048576) :
    Calls Try.prog 13 #[.agg #[.slice aS s.slots.length cS, .slice aH s.heads.length cH], .agg #[.int .i64 k.key, .int .i64 k.cur, .int .i64 k.stage, .int .i64 k.state, .int .i64 k.slot, .int .i64 k.gen, .int .i64 k.steps]] w fun e w' => WkAns (stepWS s k) (stepWW s k) (stepC s k) w e w' := by
  have HC := hidS (fun W (h : Below w.heap.size w W) => l07Code_any aS aH cS cH s k W (hR.later h) h1 h2)
  by_cases hc : stepC s k = 0
  case neg =>
    have E1 : stepWS s k = ⟨[], []⟩ := by unfold stepWS; rw [if_neg hc]
    have E2 : stepWW s k = zeroW := by unfold stepWW; rw [if_neg hc]
    rw [E1, E2]
    generalize stepC s k = c at HC hc ⊢
    have hcb : (c == 0) = false := beq_eq_false_iff_ne.2 hc
    have HI := hidS (fun W => l07Ill_any c W)
    refine Calls.mono (R := fun e w' => e = .returned (.agg #[.slice none 0 0, .slice none 0 0, .int .i64 0, .int .i64 0, .int .i64 0, .int .i64 0, .int .i64 0, .int .i64 0, .int .i64 0, .int .i64 c]) ∧ Below w.heap.size w w') ?_ (fun e x h => ill_walk h)
    clear E1 E2 hR
    have hGA0 : Hid ((((w.alloc (.cells #[.slice aS s.slots.length cS, .slice aH s.heads.length cH] 26)).alloc (.cells #[.int .i64 k.key, .int .i64 k.cur, .int .i64 k.stage, .int .i64 k.state, .int .i64 k.slot, .int .i64 k.gen, .int .i64 k.steps] 30)).alloc (.cells #[.slice none 0 0, .slice none 0 0, .int .i64 0, .int .i64 0, .int .i64 0, .int .i64 0, .int .i64 0, .int .i64 0, .int .i64 0, .int .i64 0] 32)).heap[w.heap.size]? = some (.cells #[.slice aS s.slots.length cS, .slice aH s.heads.length cH] 26)) := by
      show _ = _
      have := blk_alloc (blk_alloc (heap_newG w (.cells #[.slice aS s.slots.length cS, .slice aH s.heads.length cH] 26)) (.cells #[.int .i64 k.key, .int .i64 k.cur, .int .i64 k.stage, .int .i64 k.state, .int .i64 k.slot, .int .i64 k.gen, .int .i64 k.steps] 30)) (.cells #[.slice none 0 0, .slice none 0 0, .int .i64 0, .int .i64 0, .int .i64 0, .int .i64 0, .int .i64 0, .int .i64 0, .int .i64 0, .int .i64 0] 32)
      simpa using this
    have hGK0 : Hid ((((w.alloc (.cells #[.slice aS s.slots.length cS, .slice aH s.heads.length cH] 26)).alloc (.cells #[.int .i64 k.key, .int .i64 k.cur, .int .i64 k.stage, .int .i64 k.state, .int .i64 k.slot, .int .i64 k.gen, .int .i64 k.steps] 30)).alloc (.cells #[.slice none 0 0, .slice none 0 0, .int .i64 0, .int .i64 0, .int .i64 0, .int .i64 0, .int .i64 0, .int .i64 0, .int .i64 0, .int .i64 0] 32)).heap[w.heap.size + 1]? = some (.cells #[.int .i64 k.key, .int .i64 k.cur, .int .i64 k.stage, .int .i64 k.state, .int .i64 k.slot, .int .i64 k.gen, .int .i64 k.steps] 30)) := by
      show _ = _
      have := blk_alloc (heap_newG (w.alloc (.cells #[.slice aS s.slots.length cS, .slice aH s.heads.length cH] 26)) (.cells #[.int .i64 k.key, .int .i64 k.cur, .int .i64 k.stage, .int .i64 k.state, .int .i64 k.slot, .int .i64 k.gen, .int .i64 k.steps] 30)) (.cells #[.slice none 0 0, .slice none 0 0, .int .i64 0, .int .i64 0, .int .i64 0, .int .i64 0, .int .i64 0, .int .i64 0, .int .i64 0, .int .i64 0] 32)
      simpa using this
    have hGR0 : Hid ((((w.alloc (.cells #[.slice aS s.slots.length cS, .slice aH s.heads.length cH] 26)).alloc (.cells #[.int .i64 k.key, .int .i64 k.cur, .int .i64 k.stage, .int .i64 k.state, .int .i64 k.slot, .int .i64 k.gen, .int .i64 k.steps] 30)).alloc (.cells #[.slice none 0 0, .slice none 0 0, .int .i64 0, .int .i64 0, .int .i64 0, .int .i64 0, .int .i64 0, .int .i64 0, .int .i64 0, .int .i64 0] 32)).heap[w.heap.size + 2]? = some (.cells #[.slice none 0 0, .slice none 0 0, .int .i64 0, .int .i64 0, .int .i64 0, .int .i64 0, .int .i64 0, .int .i64 0, .int .i64 0, .int .i64 0] 32)) := by
      show _ = _
      have := heap_newG ((w.alloc (.cells #[.slice aS s.slots.length cS, .slice aH s.heads.length cH] 26)).alloc (.cells #[.int .i64 k.key, .int .i64 k.cur, .int .i64 k.stage, .int .i64 k.state, .int .i64 k.slot, .int .i64 k.gen, .int .i64 k.steps] 30)) (.cells #[.slice none 0 0, .slice none 0 0, .int .i64 0, .int .i64 0, .int .i64 0, .int .i64 0, .int .i64 0, .int .i64 0, .int .i64 0, .int .i64 0] 32)
      simpa using this
    have hL0 := hidS ((((Below.refl w.heap.size w).alloc (Nat.le_refl _) (.cells #[.slice aS s.slots.length cS, .slice aH s.heads.length cH] 26)).alloc (by simp) (.cells #[.int .i64 k.key, .int .i64 k.cur, .int .i64 k.stage, .int .i64 k.state, .int .i64 k.slot, .int .i64 k.gen, .int .i64 k.steps] 30)).alloc (by simp; omega) (.cells #[.slice none 0 0, .slice none 0 0, .int .i64 0, .int .i64 0, .int .i64 0, .int .i64 0, .int .i64 0, .int .i64 0, .int .i64 0, .int .i64 0] 32))
    go_enter Try.func13, Try.ntmps13
    go_wp2_with fail
    refine (HC.out _ hL0.out).mono ?_
    rintro _ w1 ⟨rfl, hb1⟩
    have hGA1 := hidS (blk_later hGA0.out hb1)
    have hGK1 := hidS (blk_later hGK0.out hb1)
    have hGR1 := hidS (blk_later hGR0.out hb1)
    have hL1 := hidS (hL0.out.trans (hb1.mono hL0.out.size))
    clear hb1 hL0 hGA0 hGK0 hGR0
    go_wp2_with fail
    refine (HI.out _).mono ?_
    rintro _ w2 ⟨rfl, hb2⟩
    have hGA2 := hidS (blk_later hGA1.out hb2)
    have hGK2 := hidS (blk_later hGK1.out hb2)
    have hGR2 := hidS (blk_later hGR1.out hb2)
    have hL2 := hidS (hL1.out.trans (hb2.mono hL1.out.size))
    clear hb2 hL1 hGA1 hGK1 hGR1
    have kR := blk_cell hGR2.out
    have fR := blk_free hGR2.out
    go_wp2_with fail
    refine bodyPost_ret (v := .agg #[.slice none 0 0, .slice none 0 0, .int .i64 0, .int .i64 0, .int .i64 0, .int .i64 0, .int .i64 0, .int .i64 0, .int .i64 0, .int .i64 c]) (by simp [results, Try.results13, go_sem, *]) rfl ⟨rfl, ?_⟩
    repeat (refine below_at ?_ (by omega))
    exact hL2.out
  obtain ⟨hr, hw, hgo⟩ := stepC_ok hc
  have E1 : stepWS s k = (stepP s k).1 := by unfold stepWS; rw [if_pos hc]
  have E2 : stepWW s k = (stepP s k).2 := by unfold stepWW; rw [if_pos hc]
  rw [E1, E2, hc]
  rw [hc] at HC
  obtain ⟨_, _, eH, eS⟩ := step_key s k
  obtain ⟨_, n1, n2, n3, n4⟩ := right_leads hr
  obtain ⟨bS, oS, rfl, _⟩ := hR.slots.slot (show 0 < s.slots.length by omega)
  obtain ⟨bH, oH, rfl, _⟩ := hR.heads 0 (by omega)
  have HCP := hidS (fun W (h : Below w.heap.size w W) => l06Copy_any bS oS bH oH cS cH s W (hR.later h) n2 n4)
  have HST := hidS (fun g tb o2 c2 b3 o3 c3 W hG P Q n1 n2 => l07Step_any g tb o2 c2 b3 o3 c3 s k W hr hw hgo hG P Q n1 n2)
  have ES := hidS eS
  have EH := hidS eH
  generalize (stepP s k).1 = s' at HST ES EH ⊢
  generalize (stepP s k).2 = k' at HST ⊢
  clear E1 E2 hc hR hr hw hgo eH eS
  have hGA0 : Hid ((((w.alloc (.cells #[.slice (some ⟨bS, oS, none⟩) s.slots.length cS, .slice (some ⟨bH, oH, none⟩) s.heads.length cH] 26)).alloc (.cells #[.int .i64 k.key, .int .i64 k.cur, .int .i64 k.stage, .int .i64 k.state, .int .i64 k.slot, .int .i64 k.gen, .int .i64 k.steps] 30)).alloc (.cells #[.slice none 0 0, .slice none 0 0, .int .i64 0, .int .i64 0, .int .i64 0, .int .i64 0, .int .i64 0, .int .i64 0, .int .i64 0, .int .i64 0] 32)).heap[w.heap.size]? = some (.cells #[.slice (some ⟨bS, oS, none⟩) s.slots.length cS, .slice (some ⟨bH, oH, none⟩) s.heads.length cH] 26)) := by
    show _ = _
    have := blk_alloc (blk_alloc (heap_newG w (.cells #[.slice (some ⟨bS, oS, none⟩) s.slots.length cS, .slice (some ⟨bH, oH, none⟩) s.heads.length cH] 26)) (.cells #[.int .i64 k.key, .int .i64 k.cur, .int .i64 k.stage, .int .i64 k.state, .int .i64 k.slot, .int .i64 k.gen, .int .i64 k.steps] 30)) (.cells #[.slice none 0 0, .slice none 0 0, .int .i64 0, .int .i64 0, .int .i64 0, .int .i64 0, .int .i64 0, .int .i64 0, .int .i64 0, .int .i64 0] 32)
    simpa using this
  have hGK0 : Hid ((((w.alloc (.cells #[.slice (some ⟨bS, oS, none⟩) s.slots.length cS, .slice (some ⟨bH, oH, none⟩) s.heads.length cH] 26)).alloc (.cells #[.int .i64 k.key, .int .i64 k.cur, .int .i64 k.stage, .int .i64 k.state, .int .i64 k.slot, .int .i64 k.gen, .int .i64 k.steps] 30)).alloc (.cells #[.slice none 0 0, .slice none 0 0, .int .i64 0, .int .i64 0, .int .i64 0, .int .i64 0, .int .i64 0, .int .i64 0, .int .i64 0, .int .i64 0] 32)).heap[w.heap.size + 1]? = some (.cells #[.int .i64 k.key, .int .i64 k.cur, .int .i64 k.stage, .int .i64 k.state, .int .i64 k.slot, .int .i64 k.gen, .int .i64 k.steps] 30)) := by
    show _ = _
    have := blk_alloc (heap_newG (w.alloc (.cells #[.slice (some ⟨bS, oS, none⟩) s.slots.length cS, .slice (some ⟨bH, oH, none⟩) s.heads.length cH] 26)) (.cells #[.int .i64 k.key, .int .i64 k.cur, .int .i64 k.stage, .int .i64 k.state, .int .i64 k.slot, .int .i64 k.gen, .int .i64 k.steps] 30)) (.cells #[.slice none 0 0, .slice none 0 0, .int .i64 0, .int .i64 0, .int .i64 0, .int .i64 0, .int .i64 0, .int .i64 0, .int .i64 0, .int .i64 0] 32)
    simpa using this
  have hGR0 : Hid ((((w.alloc (.cells #[.slice (some ⟨bS, oS, none⟩) s.slots.length cS, .slice (some ⟨bH, oH, none⟩) s.heads.length cH] 26)).alloc (.cells #[.int .i64 k.key, .int .i64 k.cur, .int .i64 k.stage, .int .i64 k.state, .int .i64 k.slot, .int .i64 k.gen, .int .i64 k.steps] 30)).alloc (.cells #[.slice none 0 0, .slice none 0 0, .int .i64 0, .int .i64 0, .int .i64 0, .int .i64 0, .int .i64 0, .int .i64 0, .int .i64 0, .int .i64 0] 32)).heap[w.heap.size + 2]? = some (.cells #[.slice none 0 0, .slice none 0 0, .int .i64 0, .int .i64 0, .int .i64 0, .int .i64 0, .int .i64 0, .int .i64 0, .int .i64 0, .int .i64 0] 32)) := by
    show _ = _
    have := heap_newG ((w.alloc (.cells #[.slice (some ⟨bS, oS, none⟩) s.slots.length cS, .slice (some ⟨bH, oH, none⟩) s.heads.length cH] 26)).alloc (.cells #[.int .i64 k.key, .int .i64 k.cur, .int .i64 k.stage, .int .i64 k.state, .int .i64 k.slot, .int .i64 k.gen, .int .i64 k.steps] 30)) (.cells #[.slice none 0 0, .slice none 0 0, .int .i64 0, .int .i64 0, .int .i64 0, .int .i64 0, .int .i64 0, .int .i64 0, .int .i64 0, .int .i64 0] 32)
    simpa using this
  have hL0 := hidS ((((Below.refl w.heap.size w).alloc (Nat.le_refl _) (.cells #[.slice (some ⟨bS, oS, none⟩) s.slots.length cS, .slice (some ⟨bH, oH, none⟩) s.heads.length cH] 26)).alloc (by simp) (.cells #[.int .i64 k.key, .int .i64 k.cur, .int .i64 k.stage, .int .i64 k.state, .int .i64 k.slot, .int .i64 k.gen, .int .i64 k.steps] 30)).alloc (by simp; omega) (.cells #[.slice none 0 0, .slice none 0 0, .int .i64 0, .int .i64 0, .int .i64 0, .int .i64 0, .int .i64 0, .int .i64 0, .int .i64 0, .int .i64 0] 32))
  go_enter Try.func13, Try.ntmps13
  go_wp2_with fail
  refine (HC.out _ hL0.out).mono ?_
  rintro _ w1 ⟨rfl, hb1⟩
  have hGA1 := hidS (blk_later hGA0.out hb1)
  have hGK1 := hidS (blk_later hGK0.out hb1)
  have hGR1 := hidS (blk_later hGR0.out hb1)
  have hL1 := hidS (hL0.out.trans (hb1.mono hL0.out.size))
  clear hb1 hL0 hGA0 hGK0 hGR0
  have cA0 := blk_cell hGA1.out 0
  have cA1 := blk_cell hGA1.out 1
  simp at cA0 cA1
  go_wp2_with fail
  refine (HCP.out _ hL1.out).mono ?_
  intro e w2 hans
  obtain ⟨b2, o2, u2, b3, o3, u3, rfl, q1, q2, q3, hP, hQ, hb2⟩ := SlabAns.rows hans n1 n3
  clear hans
  clear cA0 cA1
  have hGA2 := hidS (blk_later hGA1.out hb2)
  have hGK2 := hidS (blk_later hGK1.out hb2)
  have hGR2 := hidS (blk_later hGR1.out hb2)
  have hL2 := hidS (hL1.out.trans (hb2.mono hL1.out.size))
  have lw1 := hL1.out.size
  have lR1 := blk_lt hGR1.out
  clear hb2 hL1 hGA1 hGK1 hGR1
  have lP := hP.lt
  have lQ := hQ.lt
  have P := hidS (hP.later ((Below.refl w2.heap.size w2).alloc (Nat.le_refl _) (.cells #[.slice (some ⟨b2, o2, none⟩) s.slots.length u2, .slice (some ⟨b3, o3, none⟩) s.heads.length u3] 26)))
  have Q := hidS (hQ.later ((Below.refl w2.heap.size w2).alloc (Nat.le_refl _) (.cells #[.slice (some ⟨b2, o2, none⟩) s.slots.length u2, .slice (some ⟨b3, o3, none⟩) s.heads.length u3] 26)))
  clear hP hQ
  go_upto_region 5 with fail
  have hG0 := hidS (heap_newG w2 (.cells #[.slice (some ⟨b2, o2, none⟩) s.slots.length u2, .slice (some ⟨b3, o3, none⟩) s.heads.length u3] 26))
  have lR2 := blk_lt hGR2.out
  have hGK := hidS (blk_alloc hGK2.out (.cells #[.slice (some ⟨b2, o2, none⟩) s.slots.length u2, .slice (some ⟨b3, o3, none⟩) s.heads.length u3] 26))
  have hGR := hidS (blk_alloc hGR2.out (.cells #[.slice (some ⟨b2, o2, none⟩) s.slots.length u2, .slice (some ⟨b3, o3, none⟩) s.heads.length u3] 26))
  have hL := hidS (hL2.out.alloc hL2.out.size (.cells #[.slice (some ⟨b2, o2, none⟩) s.slots.length u2, .slice (some ⟨b3, o3, none⟩) s.heads.length u3] 26))
  have lw2 := hL2.out.size
  clear hGA2 hGK2 hGR2 hL2
  generalize w2.alloc (.cells #[.slice (some ⟨b2, o2, none⟩) s.slots.length u2, .slice (some ⟨b3, o3, none⟩) s.heads.length u3] 26) = wa at P Q hG0 hGK hGR hL ⊢
  generalize w2.heap.size = g at *
  have c0 := blk_cell hGK.out 0
  have c1 := blk_cell hGK.out 1
  have c2 := blk_cell hGK.out 2
  have c3 := blk_cell hGK.out 3
  have c4 := blk_cell hGK.out 4
  have c5 := blk_cell hGK.out 5
  have c6 := blk_cell hGK.out 6
  simp at c0 c1 c2 c3 c4 c5 c6
  go_wp2_with fail
  refine (HST.out g b2 o2 u2 b3 o3 u3 _ hG0.out P.out Q.out q3 (by omega)).mono ?_
  rintro _ wb ⟨rfl, hP, hT⟩
  clear c0 c1 c2 c3 c4 c5 c6
  have lg := blk_lt hG0.out
  have hg1 := hidS (blk_tch hG0.out hT (by omega))
  have hr1 := hidS (blk_tch hGR.out hT (by omega))
  have P1 := hidS hP
  have Q1 := hidS (Q.out.touch hT (fun e => q3 e.symm))
  have hL1 := hidS (hL.out.trans (hT.below (by omega) hL.out.size))
  have hsz := hT.size
  clear hP hT P Q hG0 hGK hGR hL
  go_upto_region 6 with fail
  have hg2 := hidS (blk_alloc hg1.out (.cells #[.int .i64 k'.key, .int .i64 k'.cur, .int .i64 k'.stage, .int .i64 k'.state, .int .i64 k'.slot, .int .i64 k'.gen, .int .i64 k'.steps] 30))
  have hr2 := hidS (blk_alloc hr1.out (.cells #[.int .i64 k'.key, .int .i64 k'.cur, .int .i64 k'.stage, .int .i64 k'.state, .int .i64 k'.slot, .int .i64 k'.gen, .int .i64 k'.steps] 30))
  have hk2 := hidS (heap_newG wb (.cells #[.int .i64 k'.key, .int .i64 k'.cur, .int .i64 k'.stage, .int .i64 k'.state, .int .i64 k'.slot, .int .i64 k'.gen, .int .i64 k'.steps] 30))
  have P2 := hidS (P1.out.later ((Below.refl wb.heap.size wb).alloc (Nat.le_refl _) (.cells #[.int .i64 k'.key, .int .i64 k'.cur, .int .i64 k'.stage, .int .i64 k'.state, .int .i64 k'.slot, .int .i64 k'.gen, .int .i64 k'.steps] 30)))
  have Q2 := hidS (Q1.out.later ((Below.refl wb.heap.size wb).alloc (Nat.le_refl _) (.cells #[.int .i64 k'.key, .int .i64 k'.cur, .int .i64 k'.stage, .int .i64 k'.state, .int .i64 k'.slot, .int .i64 k'.gen, .int .i64 k'.steps] 30)))
  have hL2 := hidS (hL1.out.alloc hL1.out.size (.cells #[.int .i64 k'.key, .int .i64 k'.cur, .int .i64 k'.stage, .int .i64 k'.state, .int .i64 k'.slot, .int .i64 k'.gen, .int .i64 k'.steps] 30))
  clear hg1 hr1 P1 Q1 hL1
  generalize wb.alloc (.cells #[.int .i64 k'.key, .int .i64 k'.cur, .int .i64 k'.stage, .int .i64 k'.state, .int .i64 k'.slot, .int .i64 k'.gen, .int .i64 k'.steps] 30) = wc at hg2 hr2 hk2 P2 Q2 hL2 ⊢
  generalize wb.heap.size = g2 at *
  have c0 := blk_cell hk2.out 0
  have c1 := blk_cell hk2.out 1
  have c2 := blk_cell hk2.out 2
  have c3 := blk_cell hk2.out 3
  have c4 := blk_cell hk2.out 4
  have c5 := blk_cell hk2.out 5
  have c6 := blk_cell hk2.out 6
  simp at c0 c1 c2 c3 c4 c5 c6
  have d0 := blk_cell hg2.out 0
  have d1 := blk_cell hg2.out 1
  simp at d0 d1
  have kR := blk_cell hr2.out
  have fR := blk_free hr2.out
  have hP := P2.out
  have hQ := Q2.out
  have hLL := hL2.out
  go_wp2_with fail
  refine bodyPost_ret (v := .agg #[.slice (some ⟨b2, o2, none⟩) s.slots.length u2, .slice (some ⟨b3, o3, none⟩) s.heads.length u3, .int .i64 k'.key, .int .i64 k'.cur, .int .i64 k'.stage, .int .i64 k'.state, .int .i64 k'.slot, .int .i64 k'.gen, .int .i64 k'.steps, .int .i64 0]) (by simp [results, Try.results13, go_sem, *]) rfl ?_
  refine ⟨_, _, _, _, by rw [ES.out, EH.out], rows_own (by omega) (by omega) q3 ?_ ?_, ?_⟩
  · skip
    repeat (refine RowB.other ?_ (by omega))
    exact hP
  · rw [EH.out]
    repeat (refine RowB.other ?_ (by omega))
    exact hQ
  · repeat (refine below_at ?_ (by omega))
    exact hLL
end Go.Proofs.Ytfjgofmjhccdkaa
end

section
namespace Go.Proofs.Ytfjgofmjhccdkaa
open Go.ChangeShapes Go.WideShapes Go.ChangeAt Go.RowKit
set_option linter.unusedVariables false
set_option linter.unusedSimpArgs false

section
variable {P : Program} {ops : Array Oper} {Q : Exit → Act → World → Prop} {a0 : Act}
/-- 'grow_guarded' with predicates for kinds -/
theorem grow_gk {id : Nat} {w0 : World} (n : Nat) (ks : List Kp) (hn : ops.size = n) (hm : P.follows .mixedOrders = true) (hT : tidyB ops a0.tmps.size = true) (hl : AllLastB ks)
    (hstep : StepsFrom (StepW P ops (fun W => Below w0.heap.size w0 W) (fun w w' => Below w.heap.size w w') (kpOf ks) a0) 0 ops.toList)
    (hend : ∀ (v : Nat → Value) (w : World), Below w0.heap.size w0 w → (∀ i, i < n → kpOf ks i (v i) w) → Q .normal (upto ops v a0 n) w) :
    (Code.region id ops true).wp P Q a0 w0 := by
  subst hn
  exact grow_region (fun W => Below w0.heap.size w0 W) (fun w w' => Below w.heap.size w w') (kpOf ks) hm hT (fun i v w w' h hb => all_lastB ks hl i v w w' h hb) (Below.refl _ _).drew (fun i o ho => step_of_w (tidy_of hT) ho (by
    have := steps_from ops.toList 0 hstep i o (by simpa using ho)
    rwa [Nat.zero_add] at this)) hend
end
end Go.Proofs.Ytfjgofmjhccdkaa
end

section
namespace Go.Proofs.Ytfjgofmjhccdkaa
open Go.ChangeShapes Go.WideShapes Go.ChangeAt Go.RowKit
set_option linter.unusedVariables false
set_option linter.unusedSimpArgs false
set_option maxRecDepth 100000

/-- a walker that is new -/
theorem inv_new {s : Slb} (hr : rightSl s = true) (hR : RRefs s 0 0) : RInv s ⟨3, hdK s 3, 0, 0, 0, 0, 0⟩ false [] [] := by
  obtain ⟨hcl, hce⟩ := chN_lt (s := s) (key := 3) (by omega) (rt_sizes (rt_of hr).sz).2.2.1
  refine ⟨hr, wk_parts.2 ⟨⟨by show (0 : Int) ≤ 3; omega, by show (3 : Int) ≤ 999; omega⟩, place_zero (hd_next hr (by omega)), out_of_zero (.inl rfl) rfl rfl, by show (0 : Int) ≤ 0; omega, by show (0 : Int) ≤ 1000000; omega⟩, rfl, rfl, fun n h0 h1 => ?_, fun _ hf _ => lead_head hr (by omega) hf hcl, fun q => by simp at q, rfl⟩
  have := hR n h0 h1
  rw [if_neg (show ¬ ((0 : Int) = 2 ∧ (0 : Int) = n) by omega)] at this
  rw [if_neg (show ¬ ((0 : Int) = 2 ∧ hdK s 3 = n) by omega)]
  exact this
theorem newC_ok {s : Slb} (hr : rightSl s = true) : newC s 3 = 0 := by unfold newC; rw [hr]; rfl
theorem newWW_ok {s : Slb} (hr : rightSl s = true) : newWW s 3 = ⟨3, hdK s 3, 0, 0, 0, 0, 0⟩ := by unfold newWW; rw [newC_ok hr, if_pos rfl]
/-- two rows of numbers -/
structure TwoR (lo : Nat) (t : TypeId) (v1 v2 : Value) (xs ys : List Int) (av : List Nat) (W : World) : Prop where
  one : W.ownsRow lo t 1 v1 xs.length (xs.map (.int .i64))
  two : W.ownsRow lo t 1 v2 ys.length (ys.map (.int .i64))
  apart : ∀ k, v1.ownBlock = some k → v2.ownBlock ≠ some k
  away : ∀ k, v1.ownBlock = some k ∨ v2.ownBlock = some k → k ∉ av
theorem ownsRow_keep {W W' : World} {lo : Nat} {t : TypeId} {v : Value} {n : Nat} {xs : List Value} (h : W.ownsRow lo t 1 v n xs) (hk : ∀ k, v.ownBlock = some k → W'.heap[k]? = W.heap[k]?) : W'.ownsRow lo t 1 v n xs := by
  obtain ⟨h1, h2⟩ := h
  refine ⟨h1, ?_⟩
  rcases h2 with h2 | ⟨g, cap, cur, e, q1, q2, q3⟩
  · exact .inl h2
  · exact .inr ⟨g, cap, cur, e, q1, (hk g (by rw [e]; rfl)).trans q2, q3⟩
theorem TwoR.lt {lo : Nat} {t : TypeId} {v1 v2 : Value} {xs ys : List Int} {av : List Nat} {W : World} (h : TwoR lo t v1 v2 xs ys av W) : ∀ k, v1.ownBlock = some k ∨ v2.ownBlock = some k → lo ≤ k ∧ k < W.heap.size :=
  fun k hk => hk.elim (h.one.lt k) (h.two.lt k)
/-- what lasts -/
theorem TwoR.keep {lo : Nat} {t : TypeId} {v1 v2 : Value} {xs ys : List Int} {av : List Nat} {W W' : World} (h : TwoR lo t v1 v2 xs ys av W) (hk : ∀ k, k < W.heap.size → k ∉ av → W'.heap[k]? = W.heap[k]?) : TwoR lo t v1 v2 xs ys av W' :=
  ⟨ownsRow_keep h.one fun k e => hk k (h.lt k (.inl e)).2 (h.away k (.inl e)), ownsRow_keep h.two fun k e => hk k (h.lt k (.inr e)).2 (h.away k (.inr e)), h.apart, h.away⟩
theorem TwoR.later {lo : Nat} {t : TypeId} {v1 v2 : Value} {xs ys : List Int} {av : List Nat} {W W' : World} (h : TwoR lo t v1 v2 xs ys av W) (hb : Below W.heap.size W W') : TwoR lo t v1 v2 xs ys av W' :=
  h.keep fun k hk _ => hb.block k hk
/-- another set of blocks to be away from: old ones, or new ones -/
theorem TwoR.avoid {lo : Nat} {t : TypeId} {v1 v2 : Value} {xs ys : List Int} {av av' : List Nat} {W : World} (h : TwoR lo t v1 v2 xs ys av W) (ha : ∀ k ∈ av', k ∈ av ∨ W.heap.size ≤ k) : TwoR lo t v1 v2 xs ys av' W :=
  ⟨h.one, h.two, h.apart, fun k hk hm => by
    rcases ha k hm with e | e
    · exact h.away k hk e
    · have := (h.lt k hk).2; omega⟩
theorem TwoR.avoidB {lo B : Nat} {t : TypeId} {v1 v2 : Value} {xs ys : List Int} {av av' : List Nat} {W : World} (h : TwoR lo t v1 v2 xs ys av W) (hB : ∀ k, v1.ownBlock = some k ∨ v2.ownBlock = some k → lo ≤ k ∧ k < B) (ha : ∀ k ∈ av', k ∈ av ∨ B ≤ k) : TwoR lo t v1 v2 xs ys av' W :=
  ⟨h.one, h.two, h.apart, fun k hk hm => by
    rcases ha k hm with e | e
    · exact h.away k hk e
    · have := (hB k hk).2; omega⟩
theorem TwoR.set {lo : Nat} {t : TypeId} {v1 v2 : Value} {xs ys : List Int} {av : List Nat} {W : World} (h : TwoR lo t v1 v2 xs ys av W) {b : Nat} (hb : b ∈ av) (k : Nat) (v : Value) : TwoR lo t v1 v2 xs ys av (W.setCell ⟨b, k, none⟩ v) :=
  h.keep fun q _ hn => Below.heap_setCell W ⟨b, k, none⟩ v q (fun e => hn (e ▸ hb))
theorem TwoR.alloc {lo : Nat} {t : TypeId} {v1 v2 : Value} {xs ys : List Int} {av : List Nat} {W : World} (h : TwoR lo t v1 v2 xs ys av W) (o : Obj) : TwoR lo t v1 v2 xs ys (W.heap.size :: av) (W.alloc o) :=
  (h.avoid (av' := W.heap.size :: av) (fun k hk => by
    rcases List.mem_cons.1 hk with e | e
    · exact .inr (by omega)
    · exact .inl e)).later ((Below.refl _ _).alloc (Nat.le_refl _) o)
/-- the first grows -/
theorem TwoR.first {lo : Nat} {t : TypeId} {v1 v2 v' : Value} {xs ys : List Int} {av : List Nat} {W W' : World} {x : Int} (h : TwoR lo t v1 v2 xs ys av W) (ho : W'.ownsRow lo t 1 v' (xs.length + 1) (xs.map (.int .i64) ++ [.int .i64 x])) (hg : W.grownBy W' v1.ownBlock) (hp : v'.ownBlock = v1.ownBlock ∨ v'.ownBlock = some W.heap.size) (hav : ∀ k ∈ av, k < W.heap.size) : TwoR lo t v' v2 (xs ++ [x]) ys av W' := by
  refine ⟨by simpa using ho, ownsRow_keep h.two fun k e => hg.block k (h.lt k (.inr e)).2 (fun q => h.apart k q.symm e), fun k e e2 => ?_, fun k e hm => ?_⟩
  · rcases hp with q | q
    · exact h.apart k (q ▸ e) e2
    · rw [q] at e; injection e with e; have := (h.lt k (.inr e2)).2; omega
  · rcases e with e | e
    · rcases hp with q | q
      · exact h.away k (.inl (q ▸ e)) hm
      · rw [q] at e; injection e with e; have := hav k hm; omega
    · exact h.away k (.inr e) hm
/-- the second grows -/
theorem TwoR.swap {lo : Nat} {t : TypeId} {v1 v2 : Value} {xs ys : List Int} {av : List Nat} {W : World} (h : TwoR lo t v1 v2 xs ys av W) : TwoR lo t v2 v1 ys xs av W :=
  ⟨h.two, h.one, fun k e e2 => h.apart k e2 e, fun k e => h.away k e.symm⟩
theorem TwoR.second {lo : Nat} {t : TypeId} {v1 v2 v' : Value} {xs ys : List Int} {av : List Nat} {W W' : World} {x : Int} (h : TwoR lo t v1 v2 xs ys av W) (ho : W'.ownsRow lo t 1 v' (ys.length + 1) (ys.map (.int .i64) ++ [.int .i64 x])) (hg : W.grownBy W' v2.ownBlock) (hp : v'.ownBlock = v2.ownBlock ∨ v'.ownBlock = some W.heap.size) (hav : ∀ k ∈ av, k < W.heap.size) : TwoR lo t v1 v' xs (ys ++ [x]) av W' :=
  (h.swap.first ho hg hp hav).swap
/-- two empty ones that were made -/
theorem TwoR.made {lo : Nat} {t : TypeId} {av : List Nat} {W : World} {r1 r2 : Nat} (h1 : W.heap[r1]? = some (.cells #[] t)) (h2 : W.heap[r2]? = some (.cells #[] t)) (l1 : lo ≤ r1) (l2 : lo ≤ r2) (hne : r1 ≠ r2) (a1 : r1 ∉ av) (a2 : r2 ∉ av) : TwoR lo t (.slice (some ⟨r1, 0, none⟩) 0 0) (.slice (some ⟨r2, 0, none⟩) 0 0) [] [] av W :=
  ⟨⟨rfl, Or.inr ⟨r1, 0, #[], rfl, l1, h1, Nat.le_refl _, by simp [maxLen], rfl, rfl⟩⟩, ⟨rfl, Or.inr ⟨r2, 0, #[], rfl, l2, h2, Nat.le_refl _, by simp [maxLen], rfl, rfl⟩⟩,
   (fun k e e2 => by injection e with e; injection e2 with e2; exact hne (e.trans e2.symm)),
   (fun k e => by
    rcases e with e | e
    · injection e with e; exact e ▸ a1
    · injection e with e; exact e ▸ a2)⟩
end Go.Proofs.Ytfjgofmjhccdkaa
end

section
namespace Go.Proofs.Ytfjgofmjhccdkaa
open Go.ChangeShapes Go.WideShapes Go.ChangeAt Go.RowKit
set_option linter.unusedVariables false
set_option linter.unusedSimpArgs false
set_option maxRecDepth 100000

/-- how memory lies: the slab in a block, its rows elsewhere -/
structure RcM (w W : World) (sa b2 o2 u2 b3 o3 u3 : Nat) (s : Slb) : Prop where
  S : W.heap[sa]? = some (.cells #[.slice (some ⟨b2, o2, none⟩) s.slots.length u2, .slice (some ⟨b3, o3, none⟩) s.heads.length u3] 26)
  P : RowB b2 o2 (flat s.slots) W
  Q : RowB b3 o3 s.heads W
  lb : w.heap.size ≤ sa ∧ w.heap.size ≤ b2 ∧ w.heap.size ≤ b3 ∧ sa ≠ b2 ∧ sa ≠ b3
  L : Below w.heap.size w W
/-- .. and with the walker's block and the two rows that grow -/
structure RcK (w W : World) (sa ka b2 o2 u2 b3 o3 u3 : Nat) (s : Slb) (k : Wlk) (v1 v2 : Value) (sl gs : List Int) : Prop where
  M : RcM w W sa b2 o2 u2 b3 o3 u3 s
  K : W.heap[ka]? = some (.cells #[.int .i64 k.key, .int .i64 k.cur, .int .i64 k.stage, .int .i64 k.state, .int .i64 k.slot, .int .i64 k.gen, .int .i64 k.steps] 30)
  kb : w.heap.size ≤ ka ∧ ka ≠ sa ∧ ka ≠ b2 ∧ ka ≠ b3
  R : TwoR w.heap.size 2 v1 v2 sl gs [sa, ka, b2, b3] W
theorem RcK.later {w W W' : World} {sa ka b2 o2 u2 b3 o3 u3 : Nat} {s : Slb} {k : Wlk} {v1 v2 : Value} {sl gs : List Int} (h : RcK w W sa ka b2 o2 u2 b3 o3 u3 s k v1 v2 sl gs) (hb : Below W.heap.size W W') : RcK w W' sa ka b2 o2 u2 b3 o3 u3 s k v1 v2 sl gs :=
  ⟨⟨blk_later h.M.S hb, h.M.P.later hb, h.M.Q.later hb, h.M.lb, h.M.L.trans (hb.mono h.M.L.size)⟩, blk_later h.K hb, h.kb, h.R.later hb⟩
theorem RcK.lt {w W : World} {sa ka b2 o2 u2 b3 o3 u3 : Nat} {s : Slb} {k : Wlk} {v1 v2 : Value} {sl gs : List Int} (h : RcK w W sa ka b2 o2 u2 b3 o3 u3 s k v1 v2 sl gs) : ∀ q ∈ [sa, ka, b2, b3], q < W.heap.size := fun q hq => by
  have h1 := blk_lt h.M.S
  have h2 := blk_lt h.K
  have h3 := h.M.P.lt
  have h4 := h.M.Q.lt
  simp at hq
  rcases hq with rfl | rfl | rfl | rfl <;> assumption
theorem RcK.grow {w W W' : World} {sa ka b2 o2 u2 b3 o3 u3 : Nat} {s : Slb} {k : Wlk} {v1 v2 v1' v2' : Value} {sl gs sl' gs' : List Int} {row : Option Nat} (h : RcK w W sa ka b2 o2 u2 b3 o3 u3 s k v1 v2 sl gs) (hg : W.grownBy W' row) (hr : ∀ q, row = some q → v1.ownBlock = some q ∨ v2.ownBlock = some q) (hR : TwoR w.heap.size 2 v1' v2' sl' gs' [sa, ka, b2, b3] W') : RcK w W' sa ka b2 o2 u2 b3 o3 u3 s k v1' v2' sl' gs' := by
  have hk : ∀ q ∈ [sa, ka, b2, b3], W'.heap[q]? = W.heap[q]? := fun q hq => hg.block q (h.lt q hq) (fun e => h.R.away q (hr q e.symm) hq)
  exact ⟨⟨(hk sa (by simp)).trans h.M.S, h.M.P.keep (hk b2 (by simp)), h.M.Q.keep (hk b3 (by simp)), h.M.lb, h.M.L.grown hg h.M.L.size (fun q e => (h.R.lt q (hr q e)).1)⟩, (hk ka (by simp)).trans h.K, h.kb, hR⟩
/-- the first row grows -/
theorem RcK.first {w W W' : World} {sa ka b2 o2 u2 b3 o3 u3 : Nat} {s : Slb} {k : Wlk} {v1 v2 v' : Value} {sl gs : List Int} {x : Int} (h : RcK w W sa ka b2 o2 u2 b3 o3 u3 s k v1 v2 sl gs) (ho : W'.ownsRow w.heap.size 2 1 v' (sl.length + 1) (sl.map (.int .i64) ++ [.int .i64 x])) (hg : W.grownBy W' v1.ownBlock) (hp : v'.ownBlock = v1.ownBlock ∨ v'.ownBlock = some W.heap.size) : RcK w W' sa ka b2 o2 u2 b3 o3 u3 s k v' v2 (sl ++ [x]) gs :=
  h.grow hg (fun q e => .inl e) (h.R.first ho hg hp h.lt)
theorem RcK.second {w W W' : World} {sa ka b2 o2 u2 b3 o3 u3 : Nat} {s : Slb} {k : Wlk} {v1 v2 v' : Value} {sl gs : List Int} {x : Int} (h : RcK w W sa ka b2 o2 u2 b3 o3 u3 s k v1 v2 sl gs) (ho : W'.ownsRow w.heap.size 2 1 v' (gs.length + 1) (gs.map (.int .i64) ++ [.int .i64 x])) (hg : W.grownBy W' v2.ownBlock) (hp : v'.ownBlock = v2.ownBlock ∨ v'.ownBlock = some W.heap.size) : RcK w W' sa ka b2 o2 u2 b3 o3 u3 s k v1 v' sl (gs ++ [x]) :=
  h.grow hg (fun q e => .inr e) (h.R.second ho hg hp h.lt)
end Go.Proofs.Ytfjgofmjhccdkaa
end
