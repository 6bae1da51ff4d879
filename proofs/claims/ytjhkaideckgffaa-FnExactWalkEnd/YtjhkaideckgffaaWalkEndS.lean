/- Proved here: spec.WalkEnd answers as the plain function, in memory of their own; all old memory stays (conditions: the slab's rows can be read; at most 2^20 numbers). -/
import Derived.Test.YtjhkaideckgffaaWalkS2
import Derived.Test.YtjhkaideckgffaaAll39
import Derived.Test.YtjhkaideckgffaaSlabCopyS
import Derived.Test.YtjhkaideckgffaaGrowLast
namespace Go.Proofs.Ytjhkaideckgffaa
open Go.ChangeShapes Go.WideShapes Go.ChangeAt Go.RowKit
set_option linter.unusedVariables false
set_option linter.unusedSimpArgs false
set_option maxRecDepth 100000

set_option maxHeartbeats 8000000 in
theorem specWalkEnd_any (aS aH : Option Addr) (cS cH : Nat) (s : Slb) (k : Wlk) (n : Int) (w : World) (hR : SlabZ aS aH s w) (h1 : s.slots.length ≤ 1048576) (h2 : s.heads.length ≤ 1048576) :
    Calls Try.prog 21 #[.agg #[.slice aS s.slots.length cS, .slice aH s.heads.length cH], .agg #[.int .i64 k.key, .int .i64 k.cur, .int .i64 k.stage, .int .i64 k.state, .int .i64 k.slot, .int .i64 k.gen, .int .i64 k.steps], .int .i64 n] w fun e w' => WkAns (endWS s k n) (endWW s k n) (endC s k n) w e w' := by
  have HS := hidS (fun W (h : Below w.heap.size w W) => specWalkRight_any aS aH cS cH s k W (hR.later h) h1 h2)
  have HN := hidS (fun W => l02Is_any n 0 100 W)
  have HI := hidS (fun W => l07Ill_any 1 W)
  cases hr : wkRight s k
  · have EC : endC s k n = 1 := by unfold endC; rw [hr]; rfl
    have E1 : endWS s k n = ⟨[], []⟩ := by unfold endWS; rw [EC, if_neg (by decide)]
    have E2 : endWW s k n = zeroW := by unfold endWW; rw [EC, if_neg (by decide)]
    rw [E1, E2, EC]
    refine Calls.mono (R := fun e w' => e = .returned (.agg #[.slice none 0 0, .slice none 0 0, .int .i64 0, .int .i64 0, .int .i64 0, .int .i64 0, .int .i64 0, .int .i64 0, .int .i64 0, .int .i64 1]) ∧ Below w.heap.size w w') ?_ (fun e x h => ill_walk h)
    rw [hr] at HS
    clear EC E1 E2 hR hr
    have hGA0 : Hid ((((w.alloc (.cells #[.slice aS s.slots.length cS, .slice aH s.heads.length cH] 32)).alloc (.cells #[.int .i64 k.key, .int .i64 k.cur, .int .i64 k.stage, .int .i64 k.state, .int .i64 k.slot, .int .i64 k.gen, .int .i64 k.steps] 34)).alloc (.cells #[.slice none 0 0, .slice none 0 0, .int .i64 0, .int .i64 0, .int .i64 0, .int .i64 0, .int .i64 0, .int .i64 0, .int .i64 0, .int .i64 0] 39)).heap[w.heap.size]? = some (.cells #[.slice aS s.slots.length cS, .slice aH s.heads.length cH] 32)) := by
      show _ = _
      have := blk_alloc (blk_alloc (heap_newG w (.cells #[.slice aS s.slots.length cS, .slice aH s.heads.length cH] 32)) (.cells #[.int .i64 k.key, .int .i64 k.cur, .int .i64 k.stage, .int .i64 k.state, .int .i64 k.slot, .int .i64 k.gen, .int .i64 k.steps] 34)) (.cells #[.slice none 0 0, .slice none 0 0, .int .i64 0, .int .i64 0, .int .i64 0, .int .i64 0, .int .i64 0, .int .i64 0, .int .i64 0, .int .i64 0] 39)
      simpa using this
    have hGK0 : Hid ((((w.alloc (.cells #[.slice aS s.slots.length cS, .slice aH s.heads.length cH] 32)).alloc (.cells #[.int .i64 k.key, .int .i64 k.cur, .int .i64 k.stage, .int .i64 k.state, .int .i64 k.slot, .int .i64 k.gen, .int .i64 k.steps] 34)).alloc (.cells #[.slice none 0 0, .slice none 0 0, .int .i64 0, .int .i64 0, .int .i64 0, .int .i64 0, .int .i64 0, .int .i64 0, .int .i64 0, .int .i64 0] 39)).heap[w.heap.size + 1]? = some (.cells #[.int .i64 k.key, .int .i64 k.cur, .int .i64 k.stage, .int .i64 k.state, .int .i64 k.slot, .int .i64 k.gen, .int .i64 k.steps] 34)) := by
      show _ = _
      have := blk_alloc (heap_newG (w.alloc (.cells #[.slice aS s.slots.length cS, .slice aH s.heads.length cH] 32)) (.cells #[.int .i64 k.key, .int .i64 k.cur, .int .i64 k.stage, .int .i64 k.state, .int .i64 k.slot, .int .i64 k.gen, .int .i64 k.steps] 34)) (.cells #[.slice none 0 0, .slice none 0 0, .int .i64 0, .int .i64 0, .int .i64 0, .int .i64 0, .int .i64 0, .int .i64 0, .int .i64 0, .int .i64 0] 39)
      simpa using this
    have hGR0 : Hid ((((w.alloc (.cells #[.slice aS s.slots.length cS, .slice aH s.heads.length cH] 32)).alloc (.cells #[.int .i64 k.key, .int .i64 k.cur, .int .i64 k.stage, .int .i64 k.state, .int .i64 k.slot, .int .i64 k.gen, .int .i64 k.steps] 34)).alloc (.cells #[.slice none 0 0, .slice none 0 0, .int .i64 0, .int .i64 0, .int .i64 0, .int .i64 0, .int .i64 0, .int .i64 0, .int .i64 0, .int .i64 0] 39)).heap[w.heap.size + 2]? = some (.cells #[.slice none 0 0, .slice none 0 0, .int .i64 0, .int .i64 0, .int .i64 0, .int .i64 0, .int .i64 0, .int .i64 0, .int .i64 0, .int .i64 0] 39)) := by
      show _ = _
      have := heap_newG ((w.alloc (.cells #[.slice aS s.slots.length cS, .slice aH s.heads.length cH] 32)).alloc (.cells #[.int .i64 k.key, .int .i64 k.cur, .int .i64 k.stage, .int .i64 k.state, .int .i64 k.slot, .int .i64 k.gen, .int .i64 k.steps] 34)) (.cells #[.slice none 0 0, .slice none 0 0, .int .i64 0, .int .i64 0, .int .i64 0, .int .i64 0, .int .i64 0, .int .i64 0, .int .i64 0, .int .i64 0] 39)
      simpa using this
    have hL0 := hidS ((((Below.refl w.heap.size w).alloc (Nat.le_refl _) (.cells #[.slice aS s.slots.length cS, .slice aH s.heads.length cH] 32)).alloc (by simp) (.cells #[.int .i64 k.key, .int .i64 k.cur, .int .i64 k.stage, .int .i64 k.state, .int .i64 k.slot, .int .i64 k.gen, .int .i64 k.steps] 34)).alloc (by simp; omega) (.cells #[.slice none 0 0, .slice none 0 0, .int .i64 0, .int .i64 0, .int .i64 0, .int .i64 0, .int .i64 0, .int .i64 0, .int .i64 0, .int .i64 0] 39))
    go_enter Try.func21, Try.ntmps21
    go_wp2_with fail
    refine (HS.out _ hL0.out).mono ?_
    rintro _ w1 ⟨rfl, hb1⟩
    have hGA1 := hidS (blk_later hGA0.out hb1)
    have hGK1 := hidS (blk_later hGK0.out hb1)
    have hGR1 := hidS (blk_later hGR0.out hb1)
    have hL1 := hidS (hL0.out.trans (hb1.mono hL0.out.size))
    clear hb1 hL0 hGA0 hGK0 hGR0
    go_wp2_with fail
    refine (HI.out _).mono ?_
    rintro _ w2 ⟨rfl, hb2⟩
    have hGA2 := hidS (blk_later hGA1.out hb2)
    have hGK2 := hidS (blk_later hGK1.out hb2)
    have hGR2 := hidS (blk_later hGR1.out hb2)
    have hL2 := hidS (hL1.out.trans (hb2.mono hL1.out.size))
    clear hb2 hL1 hGA1 hGK1 hGR1
    have kR := blk_cell hGR2.out
    have fR := blk_free hGR2.out
    go_wp2_with fail
    refine bodyPost_ret (v := .agg #[.slice none 0 0, .slice none 0 0, .int .i64 0, .int .i64 0, .int .i64 0, .int .i64 0, .int .i64 0, .int .i64 0, .int .i64 0, .int .i64 1]) (by simp [results, Try.results21, go_sem, *]) rfl ⟨rfl, ?_⟩
    repeat (refine below_at ?_ (by omega))
    exact hL2.out
  rw [hr] at HS
  cases hn : (decide (0 ≤ n) && decide (n ≤ 100))
  · have EC : endC s k n = 1 := by unfold endC; rw [hr, hn]; rfl
    have E1 : endWS s k n = ⟨[], []⟩ := by unfold endWS; rw [EC, if_neg (by decide)]
    have E2 : endWW s k n = zeroW := by unfold endWW; rw [EC, if_neg (by decide)]
    rw [E1, E2, EC]
    refine Calls.mono (R := fun e w' => e = .returned (.agg #[.slice none 0 0, .slice none 0 0, .int .i64 0, .int .i64 0, .int .i64 0, .int .i64 0, .int .i64 0, .int .i64 0, .int .i64 0, .int .i64 1]) ∧ Below w.heap.size w w') ?_ (fun e x h => ill_walk h)
    rw [hn] at HN
    clear EC E1 E2 hR hr hn
    have hGA0 : Hid ((((w.alloc (.cells #[.slice aS s.slots.length cS, .slice aH s.heads.length cH] 32)).alloc (.cells #[.int .i64 k.key, .int .i64 k.cur, .int .i64 k.stage, .int .i64 k.state, .int .i64 k.slot, .int .i64 k.gen, .int .i64 k.steps] 34)).alloc (.cells #[.slice none 0 0, .slice none 0 0, .int .i64 0, .int .i64 0, .int .i64 0, .int .i64 0, .int .i64 0, .int .i64 0, .int .i64 0, .int .i64 0] 39)).heap[w.heap.size]? = some (.cells #[.slice aS s.slots.length cS, .slice aH s.heads.length cH] 32)) := by
      show _ = _
      have := blk_alloc (blk_alloc (heap_newG w (.cells #[.slice aS s.slots.length cS, .slice aH s.heads.length cH] 32)) (.cells #[.int .i64 k.key, .int .i64 k.cur, .int .i64 k.stage, .int .i64 k.state, .int .i64 k.slot, .int .i64 k.gen, .int .i64 k.steps] 34)) (.cells #[.slice none 0 0, .slice none 0 0, .int .i64 0, .int .i64 0, .int .i64 0, .int .i64 0, .int .i64 0, .int .i64 0, .int .i64 0, .int .i64 0] 39)
      simpa using this
    have hGK0 : Hid ((((w.alloc (.cells #[.slice aS s.slots.length cS, .slice aH s.heads.length cH] 32)).alloc (.cells #[.int .i64 k.key, .int .i64 k.cur, .int .i64 k.stage, .int .i64 k.state, .int .i64 k.slot, .int .i64 k.gen, .int .i64 k.steps] 34)).alloc (.cells #[.slice none 0 0, .slice none 0 0, .int .i64 0, .int .i64 0, .int .i64 0, .int .i64 0, .int .i64 0, .int .i64 0, .int .i64 0, .int .i64 0] 39)).heap[w.heap.size + 1]? = some (.cells #[.int .i64 k.key, .int .i64 k.cur, .int .i64 k.stage, .int .i64 k.state, .int .i64 k.slot, .int .i64 k.gen, .int .i64 k.steps] 34)) := by
      show _ = _
      have := blk_alloc (heap_newG (w.alloc (.cells #[.slice aS s.slots.length cS, .slice aH s.heads.length cH] 32)) (.cells #[.int .i64 k.key, .int .i64 k.cur, .int .i64 k.stage, .int .i64 k.state, .int .i64 k.slot, .int .i64 k.gen, .int .i64 k.steps] 34)) (.cells #[.slice none 0 0, .slice none 0 0, .int .i64 0, .int .i64 0, .int .i64 0, .int .i64 0, .int .i64 0, .int .i64 0, .int .i64 0, .int .i64 0] 39)
      simpa using this
    have hGR0 : Hid ((((w.alloc (.cells #[.slice aS s.slots.length cS, .slice aH s.heads.length cH] 32)).alloc (.cells #[.int .i64 k.key, .int .i64 k.cur, .int .i64 k.stage, .int .i64 k.state, .int .i64 k.slot, .int .i64 k.gen, .int .i64 k.steps] 34)).alloc (.cells #[.slice none 0 0, .slice none 0 0, .int .i64 0, .int .i64 0, .int .i64 0, .int .i64 0, .int .i64 0, .int .i64 0, .int .i64 0, .int .i64 0] 39)).heap[w.heap.size + 2]? = some (.cells #[.slice none 0 0, .slice none 0 0, .int .i64 0, .int .i64 0, .int .i64 0, .int .i64 0, .int .i64 0, .int .i64 0, .int .i64 0, .int .i64 0] 39)) := by
      show _ = _
      have := heap_newG ((w.alloc (.cells #[.slice aS s.slots.length cS, .slice aH s.heads.length cH] 32)).alloc (.cells #[.int .i64 k.key, .int .i64 k.cur, .int .i64 k.stage, .int .i64 k.state, .int .i64 k.slot, .int .i64 k.gen, .int .i64 k.steps] 34)) (.cells #[.slice none 0 0, .slice none 0 0, .int .i64 0, .int .i64 0, .int .i64 0, .int .i64 0, .int .i64 0, .int .i64 0, .int .i64 0, .int .i64 0] 39)
      simpa using this
    have hL0 := hidS ((((Below.refl w.heap.size w).alloc (Nat.le_refl _) (.cells #[.slice aS s.slots.length cS, .slice aH s.heads.length cH] 32)).alloc (by simp) (.cells #[.int .i64 k.key, .int .i64 k.cur, .int .i64 k.stage, .int .i64 k.state, .int .i64 k.slot, .int .i64 k.gen, .int .i64 k.steps] 34)).alloc (by simp; omega) (.cells #[.slice none 0 0, .slice none 0 0, .int .i64 0, .int .i64 0, .int .i64 0, .int .i64 0, .int .i64 0, .int .i64 0, .int .i64 0, .int .i64 0] 39))
    go_enter Try.func21, Try.ntmps21
    go_wp2_with fail
    refine (HS.out _ hL0.out).mono ?_
    rintro _ w1 ⟨rfl, hb1⟩
    have hGA1 := hidS (blk_later hGA0.out hb1)
    have hGK1 := hidS (blk_later hGK0.out hb1)
    have hGR1 := hidS (blk_later hGR0.out hb1)
    have hL1 := hidS (hL0.out.trans (hb1.mono hL0.out.size))
    clear hb1 hL0 hGA0 hGK0 hGR0
    go_wp2_with fail
    refine (HN.out _).mono ?_
    rintro _ v ⟨rfl, hv⟩
    rw [hv]
    clear hv v
    go_wp2_with fail
    refine (HI.out _).mono ?_
    rintro _ w2 ⟨rfl, hb2⟩
    have hGA2 := hidS (blk_later hGA1.out hb2)
    have hGK2 := hidS (blk_later hGK1.out hb2)
    have hGR2 := hidS (blk_later hGR1.out hb2)
    have hL2 := hidS (hL1.out.trans (hb2.mono hL1.out.size))
    clear hb2 hL1 hGA1 hGK1 hGR1
    have kR := blk_cell hGR2.out
    have fR := blk_free hGR2.out
    go_wp2_with fail
    refine bodyPost_ret (v := .agg #[.slice none 0 0, .slice none 0 0, .int .i64 0, .int .i64 0, .int .i64 0, .int .i64 0, .int .i64 0, .int .i64 0, .int .i64 0, .int .i64 1]) (by simp [results, Try.results21, go_sem, *]) rfl ⟨rfl, ?_⟩
    repeat (refine below_at ?_ (by omega))
    exact hL2.out
  rw [hn] at HN
  have EC : endC s k n = 0 := by unfold endC; rw [hr, hn]; rfl
  obtain ⟨N, rfl⟩ : ∃ N : Nat, n = (N : Int) := ⟨n.toNat, by simp at hn; omega⟩
  have E1 : endWS s k (N : Int) = (runP N s k).1 := by unfold endWS; rw [EC, if_pos rfl]; rfl
  have E2 : endWW s k (N : Int) = (runP N s k).2 := by unfold endWW; rw [EC, if_pos rfl]; rfl
  rw [E1, E2, EC]
  have hNl : N ≤ 100 := by simp at hn; omega
  unfold wkRight at hr
  simp only [Bool.and_eq_true] at hr
  obtain ⟨hr, hw⟩ := hr
  obtain ⟨_, n1, n2, n3, n4⟩ := right_leads hr
  obtain ⟨bS, oS, rfl, _⟩ := hR.slots.slot (show 0 < s.slots.length by omega)
  obtain ⟨bH, oH, rfl, _⟩ := hR.heads 0 (by omega)
  have HCP := hidS (fun W (h : Below w.heap.size w W) => l06Copy_any bS oS bH oH cS cH s W (hR.later h) n2 n4)
  obtain ⟨eS, eH⟩ := run_len N s k
  have ES := hidS eS
  have EH := hidS eH
  have HW := hidS (⟨hr, hw⟩ : rightSl s = true ∧ wkR s k = true)
  clear EC E1 E2 hn hR hr hw eH eS
  have hGA0 : Hid ((((w.alloc (.cells #[.slice (some ⟨bS, oS, none⟩) s.slots.length cS, .slice (some ⟨bH, oH, none⟩) s.heads.length cH] 32)).alloc (.cells #[.int .i64 k.key, .int .i64 k.cur, .int .i64 k.stage, .int .i64 k.state, .int .i64 k.slot, .int .i64 k.gen, .int .i64 k.steps] 34)).alloc (.cells #[.slice none 0 0, .slice none 0 0, .int .i64 0, .int .i64 0, .int .i64 0, .int .i64 0, .int .i64 0, .int .i64 0, .int .i64 0, .int .i64 0] 39)).heap[w.heap.size]? = some (.cells #[.slice (some ⟨bS, oS, none⟩) s.slots.length cS, .slice (some ⟨bH, oH, none⟩) s.heads.length cH] 32)) := by
    show _ = _
    have := blk_alloc (blk_alloc (heap_newG w (.cells #[.slice (some ⟨bS, oS, none⟩) s.slots.length cS, .slice (some ⟨bH, oH, none⟩) s.heads.length cH] 32)) (.cells #[.int .i64 k.key, .int .i64 k.cur, .int .i64 k.stage, .int .i64 k.state, .int .i64 k.slot, .int .i64 k.gen, .int .i64 k.steps] 34)) (.cells #[.slice none 0 0, .slice none 0 0, .int .i64 0, .int .i64 0, .int .i64 0, .int .i64 0, .int .i64 0, .int .i64 0, .int .i64 0, .int .i64 0] 39)
    simpa using this
  have hGK0 : Hid ((((w.alloc (.cells #[.slice (some ⟨bS, oS, none⟩) s.slots.length cS, .slice (some ⟨bH, oH, none⟩) s.heads.length cH] 32)).alloc (.cells #[.int .i64 k.key, .int .i64 k.cur, .int .i64 k.stage, .int .i64 k.state, .int .i64 k.slot, .int .i64 k.gen, .int .i64 k.steps] 34)).alloc (.cells #[.slice none 0 0, .slice none 0 0, .int .i64 0, .int .i64 0, .int .i64 0, .int .i64 0, .int .i64 0, .int .i64 0, .int .i64 0, .int .i64 0] 39)).heap[w.heap.size + 1]? = some (.cells #[.int .i64 k.key, .int .i64 k.cur, .int .i64 k.stage, .int .i64 k.state, .int .i64 k.slot, .int .i64 k.gen, .int .i64 k.steps] 34)) := by
    show _ = _
    have := blk_alloc (heap_newG (w.alloc (.cells #[.slice (some ⟨bS, oS, none⟩) s.slots.length cS, .slice (some ⟨bH, oH, none⟩) s.heads.length cH] 32)) (.cells #[.int .i64 k.key, .int .i64 k.cur, .int .i64 k.stage, .int .i64 k.state, .int .i64 k.slot, .int .i64 k.gen, .int .i64 k.steps] 34)) (.cells #[.slice none 0 0, .slice none 0 0, .int .i64 0, .int .i64 0, .int .i64 0, .int .i64 0, .int .i64 0, .int .i64 0, .int .i64 0, .int .i64 0] 39)
    simpa using this
  have hGR0 : Hid ((((w.alloc (.cells #[.slice (some ⟨bS, oS, none⟩) s.slots.length cS, .slice (some ⟨bH, oH, none⟩) s.heads.length cH] 32)).alloc (.cells #[.int .i64 k.key, .int .i64 k.cur, .int .i64 k.stage, .int .i64 k.state, .int .i64 k.slot, .int .i64 k.gen, .int .i64 k.steps] 34)).alloc (.cells #[.slice none 0 0, .slice none 0 0, .int .i64 0, .int .i64 0, .int .i64 0, .int .i64 0, .int .i64 0, .int .i64 0, .int .i64 0, .int .i64 0] 39)).heap[w.heap.size + 2]? = some (.cells #[.slice none 0 0, .slice none 0 0, .int .i64 0, .int .i64 0, .int .i64 0, .int .i64 0, .int .i64 0, .int .i64 0, .int .i64 0, .int .i64 0] 39)) := by
    show _ = _
    have := heap_newG ((w.alloc (.cells #[.slice (some ⟨bS, oS, none⟩) s.slots.length cS, .slice (some ⟨bH, oH, none⟩) s.heads.length cH] 32)).alloc (.cells #[.int .i64 k.key, .int .i64 k.cur, .int .i64 k.stage, .int .i64 k.state, .int .i64 k.slot, .int .i64 k.gen, .int .i64 k.steps] 34)) (.cells #[.slice none 0 0, .slice none 0 0, .int .i64 0, .int .i64 0, .int .i64 0, .int .i64 0, .int .i64 0, .int .i64 0, .int .i64 0, .int .i64 0] 39)
    simpa using this
  have hL0 := hidS ((((Below.refl w.heap.size w).alloc (Nat.le_refl _) (.cells #[.slice (some ⟨bS, oS, none⟩) s.slots.length cS, .slice (some ⟨bH, oH, none⟩) s.heads.length cH] 32)).alloc (by simp) (.cells #[.int .i64 k.key, .int .i64 k.cur, .int .i64 k.stage, .int .i64 k.state, .int .i64 k.slot, .int .i64 k.gen, .int .i64 k.steps] 34)).alloc (by simp; omega) (.cells #[.slice none 0 0, .slice none 0 0, .int .i64 0, .int .i64 0, .int .i64 0, .int .i64 0, .int .i64 0, .int .i64 0, .int .i64 0, .int .i64 0] 39))
  go_enter Try.func21, Try.ntmps21
  go_wp2_with fail
  refine (HS.out _ hL0.out).mono ?_
  rintro _ w1 ⟨rfl, hb1⟩
  have hGA1 := hidS (blk_later hGA0.out hb1)
  have hGK1 := hidS (blk_later hGK0.out hb1)
  have hGR1 := hidS (blk_later hGR0.out hb1)
  have hL1 := hidS (hL0.out.trans (hb1.mono hL0.out.size))
  clear hb1 hL0 hGA0 hGK0 hGR0
  go_wp2_with fail
  refine (HN.out _).mono ?_
  rintro _ v ⟨rfl, hv⟩
  rw [hv]
  clear hv v
  have cA0 := blk_cell hGA1.out 0
  have cA1 := blk_cell hGA1.out 1
  simp at cA0 cA1
  go_wp2_with fail
  refine (HCP.out _ hL1.out).mono ?_
  intro e w2 hans
  obtain ⟨b2, o2, u2, b3, o3, u3, rfl, q1, q2, q3, hP, hQ, hb2⟩ := SlabAns.rows hans n1 n3
  clear hans
  clear cA0 cA1
  have hGA2 := hidS (blk_later hGA1.out hb2)
  have hGK2 := hidS (blk_later hGK1.out hb2)
  have hGR2 := hidS (blk_later hGR1.out hb2)
  have hL2 := hidS (hL1.out.trans (hb2.mono hL1.out.size))
  have lw1 := hL1.out.size
  have lR1 := blk_lt hGR1.out
  clear hb2 hL1 hGA1 hGK1 hGR1
  have lP := hP.lt
  have lQ := hQ.lt
  have P := hidS (hP.later ((Below.refl w2.heap.size w2).alloc (Nat.le_refl _) (.cells #[.slice (some ⟨b2, o2, none⟩) s.slots.length u2, .slice (some ⟨b3, o3, none⟩) s.heads.length u3] 32)))
  have Q := hidS (hQ.later ((Below.refl w2.heap.size w2).alloc (Nat.le_refl _) (.cells #[.slice (some ⟨b2, o2, none⟩) s.slots.length u2, .slice (some ⟨b3, o3, none⟩) s.heads.length u3] 32)))
  clear hP hQ
  go_wp2_with fail
  have hG0 := hidS (heap_newG w2 (.cells #[.slice (some ⟨b2, o2, none⟩) s.slots.length u2, .slice (some ⟨b3, o3, none⟩) s.heads.length u3] 32))
  have lR2 := blk_lt hGR2.out
  have hGK := hidS (blk_alloc hGK2.out (.cells #[.slice (some ⟨b2, o2, none⟩) s.slots.length u2, .slice (some ⟨b3, o3, none⟩) s.heads.length u3] 32))
  have hGR := hidS (blk_alloc hGR2.out (.cells #[.slice (some ⟨b2, o2, none⟩) s.slots.length u2, .slice (some ⟨b3, o3, none⟩) s.heads.length u3] 32))
  have hL := hidS (hL2.out.alloc hL2.out.size (.cells #[.slice (some ⟨b2, o2, none⟩) s.slots.length u2, .slice (some ⟨b3, o3, none⟩) s.heads.length u3] 32))
  have lw2 := hL2.out.size
  clear hGA2 hGK2 hGR2 hL2
  generalize w2.alloc (.cells #[.slice (some ⟨b2, o2, none⟩) s.slots.length u2, .slice (some ⟨b3, o3, none⟩) s.heads.length u3] 32) = wa at P Q hG0 hGK hGR hL ⊢
  generalize w2.heap.size = g at *
  go_loopw [2] (fun i wr => ∃ (m : Nat) (s' : Slb) (k' : Wlk), i = .int .i64 (m : Int) ∧ m ≤ 100 ∧ runP m s' k' = runP N s k ∧ rightSl s' = true ∧ wkR s' k' = true ∧ s'.slots.length = s.slots.length ∧ s'.heads = s.heads ∧ wr.heap[w.heap.size + 1]? = some (.cells #[.int .i64 k'.key, .int .i64 k'.cur, .int .i64 k'.stage, .int .i64 k'.state, .int .i64 k'.slot, .int .i64 k'.gen, .int .i64 k'.steps] 34) ∧ wr.heap[w.heap.size + 2]? = some (.cells #[.slice none 0 0, .slice none 0 0, .int .i64 0, .int .i64 0, .int .i64 0, .int .i64 0, .int .i64 0, .int .i64 0, .int .i64 0, .int .i64 0] 39) ∧ wr.heap[g]? = some (.cells #[.slice (some ⟨b2, o2, none⟩) s.slots.length u2, .slice (some ⟨b3, o3, none⟩) s.heads.length u3] 32) ∧ RowB b2 o2 (flat s'.slots) wr ∧ RowB b3 o3 s.heads wr ∧ Below w.heap.size w wr) (fun i _ => (intOf i).toNat)
  case atStart => exact ⟨N, s, k, rfl, hNl, rfl, HW.out.1, HW.out.2, rfl, rfl, hGK.out, hGR.out, hG0.out, P.out, Q.out, hL.out⟩
  case round =>
    obtain ⟨m, s', k', rfl, hm, hrun, hr', hw', eS', eH', hK, hRr, hGg, hP, hQ, hb⟩ := hrel
    clear hGK hGR hG0 P Q hL HW
    have hkk := hidS hK
    have hrr := hidS hRr
    have hgg := hidS hGg
    have P := hidS hP
    have Q := hidS hQ
    have HB := hidS hb
    clear hK hRr hGg hP hQ hb
    have c0 := blk_cell hkk.out 0
    have c1 := blk_cell hkk.out 1
    have c2 := blk_cell hkk.out 2
    have c3 := blk_cell hkk.out 3
    have c4 := blk_cell hkk.out 4
    have c5 := blk_cell hkk.out 5
    have c6 := blk_cell hkk.out 6
    simp at c0 c1 c2 c3 c4 c5 c6
    have stop : runP m s' k' = (s', k') → ∀ Q' : Prop, True → True := fun _ _ _ => trivial
    clear stop
    by_cases hgo : 0 < m ∧ goB k' = true
    · obtain ⟨m1, rfl⟩ : ∃ m1, m = m1 + 1 := ⟨m - 1, by omega⟩
      have hG := hgo.2
      unfold goB at hG
      simp only [Bool.and_eq_true, decide_eq_true_eq] at hG
      obtain ⟨s0, s1⟩ := hG
      have hsb : (k'.state == 0) = true := beq_iff_eq.2 s0
      have hmm : (0 : Int) < ((m1 + 1 : Nat) : Int) := by omega
      have HST := hidS (fun g tb o2 c2 b3 o3 c3 W hG P Q n1 n2 => l07Step_any g tb o2 c2 b3 o3 c3 s' k' W hr' hw' hgo.2 hG P Q n1 n2)
      obtain ⟨hr2, hw2⟩ := step_right hr' hw' hgo.2
      obtain ⟨_, _, e3, e4⟩ := step_key s' k'
      rw [run_go hgo.2] at hrun
      have FF : Hid (runP m1 (stepP s' k').1 (stepP s' k').2 = runP N s k ∧ rightSl (stepP s' k').1 = true ∧ wkR (stepP s' k').1 (stepP s' k').2 = true ∧ (stepP s' k').1.slots.length = s.slots.length ∧ (stepP s' k').1.heads = s.heads) := hidS ⟨hrun, hr2, hw2, e4.trans eS', e3.trans eH'⟩
      generalize (stepP s' k').1 = s2 at HST FF
      generalize (stepP s' k').2 = k2 at HST FF
      have S0 := hidS s0
      clear hrun hr' hw' hr2 hw2 e3 e4 hgo s0
      rw [← eS'] at hgg
      rw [← eH'] at hgg Q
      go_wp2_with fail
      refine (HST.out g b2 o2 u2 b3 o3 u3 _ hgg.out P.out Q.out q3 (by omega)).mono ?_
      rintro _ wb ⟨rfl, hP, hT⟩
      clear c0 c1 c2 c3 c4 c5 c6
      rw [eS'] at hgg
      rw [eH'] at hgg Q
      have hk1 := hidS (blk_tch hkk.out hT (by omega))
      have hr1 := hidS (blk_tch hrr.out hT (by omega))
      have hg1 := hidS (blk_tch hgg.out hT (by omega))
      have Q1 := hidS (Q.out.touch hT (fun e => q3 e.symm))
      have HB1 := hidS (HB.out.trans (hT.below (by omega) HB.out.size))
      have P1 := hidS hP
      clear hP hT hkk hrr hgg P Q HB
      have c := blk_cell hk1.out
      have f := blk_free hk1.out
      go_wp2_with fail
      go_roundw
      case rel =>
        refine ⟨m1, s2, k2, by simp, by omega, FF.out.1, FF.out.2.1, FF.out.2.2.1, FF.out.2.2.2.1, FF.out.2.2.2.2, ?_, ?_, ?_, ?_, ?_, ?_⟩
        · have := blk_set (blk_set (blk_set (blk_set (blk_set (blk_set (blk_set hk1.out 0 (.int .i64 k2.key)) 1 (.int .i64 k2.cur)) 2 (.int .i64 k2.stage)) 3 (.int .i64 k2.state)) 4 (.int .i64 k2.slot)) 5 (.int .i64 k2.gen)) 6 (.int .i64 k2.steps)
          simpa using this
        · iterate 7 (refine blk_other ?_ (by omega) _ _)
          exact hr1.out
        · iterate 7 (refine blk_other ?_ (by omega) _ _)
          exact hg1.out
        · iterate 7 (refine RowB.other ?_ (by omega))
          exact P1.out
        · iterate 7 (refine RowB.other ?_ (by omega))
          exact Q1.out
        · iterate 7 (refine below_at ?_ (by omega))
          exact HB1.out
      case measure => simp [intOf] <;> omega
    · have E : runP m s' k' = (s', k') := by
        by_cases h0 : 0 < m
        · exact run_stop (by cases hg : goB k'; rfl; exact absurd ⟨h0, hg⟩ hgo) m
        · have : m = 0 := by omega
          subst this; rfl
      rw [E] at hrun
      have HR := hidS hrun
      have kR := blk_cell hrr.out
      have fR := blk_free hrr.out
      have d0 := blk_cell hgg.out 0
      have d1 := blk_cell hgg.out 1
      simp at d0 d1
      have hP := P.out
      have hQ := Q.out
      have hLL := HB.out
      clear hrun E hr' hw' eS' eH'
      by_cases h0 : 0 < m
      · have h0' : (0 : Int) < (m : Int) := by omega
        by_cases hs : k'.state = 0
        · have hsb : (k'.state == 0) = true := beq_iff_eq.2 hs
          have ht : ¬ k'.steps < 1000000 := fun h => hgo ⟨h0, by unfold goB; simp [hs, h]⟩
          have S0 := hidS hs
          clear hs
          clear hgo
          go_wp2_with fail
          refine bodyPost_ret (v := .agg #[.slice (some ⟨b2, o2, none⟩) s.slots.length u2, .slice (some ⟨b3, o3, none⟩) s.heads.length u3, .int .i64 k'.key, .int .i64 k'.cur, .int .i64 k'.stage, .int .i64 k'.state, .int .i64 k'.slot, .int .i64 k'.gen, .int .i64 k'.steps, .int .i64 0]) (by simp [results, Try.results21, go_sem, *]) rfl ?_
          refine ⟨_, _, _, _, by rw [ES.out, EH.out, ← HR.out], rows_own (by omega) (by omega) q3 ?_ ?_, ?_⟩
          · rw [← HR.out]
            repeat (refine RowB.other ?_ (by omega))
            exact hP
          · rw [EH.out]
            repeat (refine RowB.other ?_ (by omega))
            exact hQ
          · repeat (refine below_at ?_ (by omega))
            exact hLL
        · have hsb : (k'.state == 0) = false := beq_eq_false_iff_ne.2 hs
          clear hgo hs
          go_wp2_with fail
          refine bodyPost_ret (v := .agg #[.slice (some ⟨b2, o2, none⟩) s.slots.length u2, .slice (some ⟨b3, o3, none⟩) s.heads.length u3, .int .i64 k'.key, .int .i64 k'.cur, .int .i64 k'.stage, .int .i64 k'.state, .int .i64 k'.slot, .int .i64 k'.gen, .int .i64 k'.steps, .int .i64 0]) (by simp [results, Try.results21, go_sem, *]) rfl ?_
          refine ⟨_, _, _, _, by rw [ES.out, EH.out, ← HR.out], rows_own (by omega) (by omega) q3 ?_ ?_, ?_⟩
          · rw [← HR.out]
            repeat (refine RowB.other ?_ (by omega))
            exact hP
          · rw [EH.out]
            repeat (refine RowB.other ?_ (by omega))
            exact hQ
          · repeat (refine below_at ?_ (by omega))
            exact hLL
      · have h0' : ¬ (0 : Int) < (m : Int) := by omega
        clear hgo h0
        go_wp2_with fail
        refine bodyPost_ret (v := .agg #[.slice (some ⟨b2, o2, none⟩) s.slots.length u2, .slice (some ⟨b3, o3, none⟩) s.heads.length u3, .int .i64 k'.key, .int .i64 k'.cur, .int .i64 k'.stage, .int .i64 k'.state, .int .i64 k'.slot, .int .i64 k'.gen, .int .i64 k'.steps, .int .i64 0]) (by simp [results, Try.results21, go_sem, *]) rfl ?_
        refine ⟨_, _, _, _, by rw [ES.out, EH.out, ← HR.out], rows_own (by omega) (by omega) q3 ?_ ?_, ?_⟩
        · rw [← HR.out]
          repeat (refine RowB.other ?_ (by omega))
          exact hP
        · rw [EH.out]
          repeat (refine RowB.other ?_ (by omega))
          exact hQ
        · repeat (refine below_at ?_ (by omega))
          exact hLL
end Go.Proofs.Ytjhkaideckgffaa
