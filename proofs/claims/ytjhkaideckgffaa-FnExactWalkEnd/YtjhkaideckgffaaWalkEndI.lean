/- Proved here: impl.WalkEnd answers as the plain function, in memory of its own; all old memory stays (conditions: the slab's rows can be read; at most 2^20 numbers; numbers of int64). -/
import Derived.Test.YtjhkaideckgffaaWalkOnI
namespace Go.Proofs.Ytjhkaideckgffaa
open Go.ChangeShapes Go.WideShapes Go.ChangeAt Go.RowKit
set_option linter.unusedVariables false
set_option linter.unusedSimpArgs false
set_option maxRecDepth 100000

set_option maxHeartbeats 4000000 in
theorem implWalkEnd_in (aS aH : Option Addr) (cS cH : Nat) (s : Slb) (key cur stage state slot gen steps n : Int) (w : World) (hR : SlabZ aS aH s w) (hF : SlabFit s) (h1 : s.slots.length ≤ 1048576) (h2 : s.heads.length ≤ 1048576) (hk : fitW ⟨key, cur, stage, state, slot, gen, steps⟩) :
    Calls Try.prog 22 #[.agg #[.slice aS s.slots.length cS, .slice aH s.heads.length cH], .agg #[.int .i64 key, .int .i64 cur, .int .i64 stage, .int .i64 state, .int .i64 slot, .int .i64 gen, .int .i64 steps], .int .i64 n] w fun e w' => WkAns (endWS s ⟨key, cur, stage, state, slot, gen, steps⟩ n) (endWW s ⟨key, cur, stage, state, slot, gen, steps⟩ n) (endC s ⟨key, cur, stage, state, slot, gen, steps⟩ n) w e w' := by
  have HS := hidS (fun W (h : Below w.heap.size w W) => implWalkRight_any aS aH cS cH s ⟨key, cur, stage, state, slot, gen, steps⟩ W (hR.later h) hF h1 h2 hk)
  cases hr : wkRight s ⟨key, cur, stage, state, slot, gen, steps⟩
  case false =>
    have EC : endC s ⟨key, cur, stage, state, slot, gen, steps⟩ n = 1 := by unfold endC; rw [hr]; rfl
    have E1 : endWS s ⟨key, cur, stage, state, slot, gen, steps⟩ n = ⟨[], []⟩ := by unfold endWS; rw [EC, if_neg (by decide)]
    have E2 : endWW s ⟨key, cur, stage, state, slot, gen, steps⟩ n = zeroW := by unfold endWW; rw [EC, if_neg (by decide)]
    rw [E1, E2, EC]
    refine Calls.mono (R := fun e w' => e = .returned (.agg #[.slice none 0 0, .slice none 0 0, .int .i64 0, .int .i64 0, .int .i64 0, .int .i64 0, .int .i64 0, .int .i64 0, .int .i64 0, .int .i64 1]) ∧ Below w.heap.size w w') ?_ (fun e x h => ill_walk h)
    rw [hr] at HS
    clear EC E1 E2 hR hr hk hF
    have hGA0 : Hid ((((w.alloc (.cells #[.slice aS s.slots.length cS, .slice aH s.heads.length cH] 32)).alloc (.cells #[.int .i64 key, .int .i64 cur, .int .i64 stage, .int .i64 state, .int .i64 slot, .int .i64 gen, .int .i64 steps] 34)).alloc (.cells #[.slice none 0 0, .slice none 0 0, .int .i64 0, .int .i64 0, .int .i64 0, .int .i64 0, .int .i64 0, .int .i64 0, .int .i64 0, .int .i64 0] 39)).heap[w.heap.size]? = some (.cells #[.slice aS s.slots.length cS, .slice aH s.heads.length cH] 32)) := by
      show _ = _
      have := blk_alloc (blk_alloc (heap_newG w (.cells #[.slice aS s.slots.length cS, .slice aH s.heads.length cH] 32)) (.cells #[.int .i64 key, .int .i64 cur, .int .i64 stage, .int .i64 state, .int .i64 slot, .int .i64 gen, .int .i64 steps] 34)) (.cells #[.slice none 0 0, .slice none 0 0, .int .i64 0, .int .i64 0, .int .i64 0, .int .i64 0, .int .i64 0, .int .i64 0, .int .i64 0, .int .i64 0] 39)
      simpa using this
    have hGK0 : Hid ((((w.alloc (.cells #[.slice aS s.slots.length cS, .slice aH s.heads.length cH] 32)).alloc (.cells #[.int .i64 key, .int .i64 cur, .int .i64 stage, .int .i64 state, .int .i64 slot, .int .i64 gen, .int .i64 steps] 34)).alloc (.cells #[.slice none 0 0, .slice none 0 0, .int .i64 0, .int .i64 0, .int .i64 0, .int .i64 0, .int .i64 0, .int .i64 0, .int .i64 0, .int .i64 0] 39)).heap[w.heap.size + 1]? = some (.cells #[.int .i64 key, .int .i64 cur, .int .i64 stage, .int .i64 state, .int .i64 slot, .int .i64 gen, .int .i64 steps] 34)) := by
      show _ = _
      have := blk_alloc (heap_newG (w.alloc (.cells #[.slice aS s.slots.length cS, .slice aH s.heads.length cH] 32)) (.cells #[.int .i64 key, .int .i64 cur, .int .i64 stage, .int .i64 state, .int .i64 slot, .int .i64 gen, .int .i64 steps] 34)) (.cells #[.slice none 0 0, .slice none 0 0, .int .i64 0, .int .i64 0, .int .i64 0, .int .i64 0, .int .i64 0, .int .i64 0, .int .i64 0, .int .i64 0] 39)
      simpa using this
    have hGR0 : Hid ((((w.alloc (.cells #[.slice aS s.slots.length cS, .slice aH s.heads.length cH] 32)).alloc (.cells #[.int .i64 key, .int .i64 cur, .int .i64 stage, .int .i64 state, .int .i64 slot, .int .i64 gen, .int .i64 steps] 34)).alloc (.cells #[.slice none 0 0, .slice none 0 0, .int .i64 0, .int .i64 0, .int .i64 0, .int .i64 0, .int .i64 0, .int .i64 0, .int .i64 0, .int .i64 0] 39)).heap[w.heap.size + 2]? = some (.cells #[.slice none 0 0, .slice none 0 0, .int .i64 0, .int .i64 0, .int .i64 0, .int .i64 0, .int .i64 0, .int .i64 0, .int .i64 0, .int .i64 0] 39)) := by
      show _ = _
      have := heap_newG ((w.alloc (.cells #[.slice aS s.slots.length cS, .slice aH s.heads.length cH] 32)).alloc (.cells #[.int .i64 key, .int .i64 cur, .int .i64 stage, .int .i64 state, .int .i64 slot, .int .i64 gen, .int .i64 steps] 34)) (.cells #[.slice none 0 0, .slice none 0 0, .int .i64 0, .int .i64 0, .int .i64 0, .int .i64 0, .int .i64 0, .int .i64 0, .int .i64 0, .int .i64 0] 39)
      simpa using this
    have hL0 := hidS ((((Below.refl w.heap.size w).alloc (Nat.le_refl _) (.cells #[.slice aS s.slots.length cS, .slice aH s.heads.length cH] 32)).alloc (by simp) (.cells #[.int .i64 key, .int .i64 cur, .int .i64 stage, .int .i64 state, .int .i64 slot, .int .i64 gen, .int .i64 steps] 34)).alloc (by simp; omega) (.cells #[.slice none 0 0, .slice none 0 0, .int .i64 0, .int .i64 0, .int .i64 0, .int .i64 0, .int .i64 0, .int .i64 0, .int .i64 0, .int .i64 0] 39))
    go_enter Try.func22, Try.ntmps22
    go_wp2_with fail
    refine (HS.out _ hL0.out).mono ?_
    rintro _ w1 ⟨rfl, hb1⟩
    have hGA1 := hidS (blk_later hGA0.out hb1)
    have hGK1 := hidS (blk_later hGK0.out hb1)
    have hGR1 := hidS (blk_later hGR0.out hb1)
    have hL1 := hidS (hL0.out.trans (hb1.mono hL0.out.size))
    clear hb1 hL0 hGA0 hGK0 hGR0
    have cK0 := blk_cell hGK1.out 0
    have cK1 := blk_cell hGK1.out 1
    have cK2 := blk_cell hGK1.out 2
    have cK3 := blk_cell hGK1.out 3
    have cK4 := blk_cell hGK1.out 4
    have cK5 := blk_cell hGK1.out 5
    have cK6 := blk_cell hGK1.out 6
    simp at cK0 cK1 cK2 cK3 cK4 cK5 cK6
    have kR := blk_cell hGR1.out
    have fR := blk_free hGR1.out
    go_wp2_with fail
    refine bodyPost_ret (v := .agg #[.slice none 0 0, .slice none 0 0, .int .i64 0, .int .i64 0, .int .i64 0, .int .i64 0, .int .i64 0, .int .i64 0, .int .i64 0, .int .i64 1]) (by simp [results, Try.results22, go_sem, *]) rfl ⟨rfl, ?_⟩
    repeat (refine below_at ?_ (by omega))
    exact hL1.out
  rw [hr] at HS
  by_cases hn0 : n < 0
  case pos =>
    have EC : endC s ⟨key, cur, stage, state, slot, gen, steps⟩ n = 1 := by unfold endC; rw [if_neg (by simp; omega)]
    have E1 : endWS s ⟨key, cur, stage, state, slot, gen, steps⟩ n = ⟨[], []⟩ := by unfold endWS; rw [EC, if_neg (by decide)]
    have E2 : endWW s ⟨key, cur, stage, state, slot, gen, steps⟩ n = zeroW := by unfold endWW; rw [EC, if_neg (by decide)]
    rw [E1, E2, EC]
    refine Calls.mono (R := fun e w' => e = .returned (.agg #[.slice none 0 0, .slice none 0 0, .int .i64 0, .int .i64 0, .int .i64 0, .int .i64 0, .int .i64 0, .int .i64 0, .int .i64 0, .int .i64 1]) ∧ Below w.heap.size w w') ?_ (fun e x h => ill_walk h)
    clear EC E1 E2 hR hr hk hF
    have hGA0 : Hid ((((w.alloc (.cells #[.slice aS s.slots.length cS, .slice aH s.heads.length cH] 32)).alloc (.cells #[.int .i64 key, .int .i64 cur, .int .i64 stage, .int .i64 state, .int .i64 slot, .int .i64 gen, .int .i64 steps] 34)).alloc (.cells #[.slice none 0 0, .slice none 0 0, .int .i64 0, .int .i64 0, .int .i64 0, .int .i64 0, .int .i64 0, .int .i64 0, .int .i64 0, .int .i64 0] 39)).heap[w.heap.size]? = some (.cells #[.slice aS s.slots.length cS, .slice aH s.heads.length cH] 32)) := by
      show _ = _
      have := blk_alloc (blk_alloc (heap_newG w (.cells #[.slice aS s.slots.length cS, .slice aH s.heads.length cH] 32)) (.cells #[.int .i64 key, .int .i64 cur, .int .i64 stage, .int .i64 state, .int .i64 slot, .int .i64 gen, .int .i64 steps] 34)) (.cells #[.slice none 0 0, .slice none 0 0, .int .i64 0, .int .i64 0, .int .i64 0, .int .i64 0, .int .i64 0, .int .i64 0, .int .i64 0, .int .i64 0] 39)
      simpa using this
    have hGK0 : Hid ((((w.alloc (.cells #[.slice aS s.slots.length cS, .slice aH s.heads.length cH] 32)).alloc (.cells #[.int .i64 key, .int .i64 cur, .int .i64 stage, .int .i64 state, .int .i64 slot, .int .i64 gen, .int .i64 steps] 34)).alloc (.cells #[.slice none 0 0, .slice none 0 0, .int .i64 0, .int .i64 0, .int .i64 0, .int .i64 0, .int .i64 0, .int .i64 0, .int .i64 0, .int .i64 0] 39)).heap[w.heap.size + 1]? = some (.cells #[.int .i64 key, .int .i64 cur, .int .i64 stage, .int .i64 state, .int .i64 slot, .int .i64 gen, .int .i64 steps] 34)) := by
      show _ = _
      have := blk_alloc (heap_newG (w.alloc (.cells #[.slice aS s.slots.length cS, .slice aH s.heads.length cH] 32)) (.cells #[.int .i64 key, .int .i64 cur, .int .i64 stage, .int .i64 state, .int .i64 slot, .int .i64 gen, .int .i64 steps] 34)) (.cells #[.slice none 0 0, .slice none 0 0, .int .i64 0, .int .i64 0, .int .i64 0, .int .i64 0, .int .i64 0, .int .i64 0, .int .i64 0, .int .i64 0] 39)
      simpa using this
    have hGR0 : Hid ((((w.alloc (.cells #[.slice aS s.slots.length cS, .slice aH s.heads.length cH] 32)).alloc (.cells #[.int .i64 key, .int .i64 cur, .int .i64 stage, .int .i64 state, .int .i64 slot, .int .i64 gen, .int .i64 steps] 34)).alloc (.cells #[.slice none 0 0, .slice none 0 0, .int .i64 0, .int .i64 0, .int .i64 0, .int .i64 0, .int .i64 0, .int .i64 0, .int .i64 0, .int .i64 0] 39)).heap[w.heap.size + 2]? = some (.cells #[.slice none 0 0, .slice none 0 0, .int .i64 0, .int .i64 0, .int .i64 0, .int .i64 0, .int .i64 0, .int .i64 0, .int .i64 0, .int .i64 0] 39)) := by
      show _ = _
      have := heap_newG ((w.alloc (.cells #[.slice aS s.slots.length cS, .slice aH s.heads.length cH] 32)).alloc (.cells #[.int .i64 key, .int .i64 cur, .int .i64 stage, .int .i64 state, .int .i64 slot, .int .i64 gen, .int .i64 steps] 34)) (.cells #[.slice none 0 0, .slice none 0 0, .int .i64 0, .int .i64 0, .int .i64 0, .int .i64 0, .int .i64 0, .int .i64 0, .int .i64 0, .int .i64 0] 39)
      simpa using this
    have hL0 := hidS ((((Below.refl w.heap.size w).alloc (Nat.le_refl _) (.cells #[.slice aS s.slots.length cS, .slice aH s.heads.length cH] 32)).alloc (by simp) (.cells #[.int .i64 key, .int .i64 cur, .int .i64 stage, .int .i64 state, .int .i64 slot, .int .i64 gen, .int .i64 steps] 34)).alloc (by simp; omega) (.cells #[.slice none 0 0, .slice none 0 0, .int .i64 0, .int .i64 0, .int .i64 0, .int .i64 0, .int .i64 0, .int .i64 0, .int .i64 0, .int .i64 0] 39))
    go_enter Try.func22, Try.ntmps22
    go_wp2_with fail
    refine (HS.out _ hL0.out).mono ?_
    rintro _ w1 ⟨rfl, hb1⟩
    have hGA1 := hidS (blk_later hGA0.out hb1)
    have hGK1 := hidS (blk_later hGK0.out hb1)
    have hGR1 := hidS (blk_later hGR0.out hb1)
    have hL1 := hidS (hL0.out.trans (hb1.mono hL0.out.size))
    clear hb1 hL0 hGA0 hGK0 hGR0
    have cK0 := blk_cell hGK1.out 0
    have cK1 := blk_cell hGK1.out 1
    have cK2 := blk_cell hGK1.out 2
    have cK3 := blk_cell hGK1.out 3
    have cK4 := blk_cell hGK1.out 4
    have cK5 := blk_cell hGK1.out 5
    have cK6 := blk_cell hGK1.out 6
    simp at cK0 cK1 cK2 cK3 cK4 cK5 cK6
    have kR := blk_cell hGR1.out
    have fR := blk_free hGR1.out
    go_wp2_with fail
    refine bodyPost_ret (v := .agg #[.slice none 0 0, .slice none 0 0, .int .i64 0, .int .i64 0, .int .i64 0, .int .i64 0, .int .i64 0, .int .i64 0, .int .i64 0, .int .i64 1]) (by simp [results, Try.results22, go_sem, *]) rfl ⟨rfl, ?_⟩
    repeat (refine below_at ?_ (by omega))
    exact hL1.out
  by_cases hn1 : 100 < n
  case pos =>
    have EC : endC s ⟨key, cur, stage, state, slot, gen, steps⟩ n = 1 := by unfold endC; rw [if_neg (by simp; omega)]
    have E1 : endWS s ⟨key, cur, stage, state, slot, gen, steps⟩ n = ⟨[], []⟩ := by unfold endWS; rw [EC, if_neg (by decide)]
    have E2 : endWW s ⟨key, cur, stage, state, slot, gen, steps⟩ n = zeroW := by unfold endWW; rw [EC, if_neg (by decide)]
    rw [E1, E2, EC]
    refine Calls.mono (R := fun e w' => e = .returned (.agg #[.slice none 0 0, .slice none 0 0, .int .i64 0, .int .i64 0, .int .i64 0, .int .i64 0, .int .i64 0, .int .i64 0, .int .i64 0, .int .i64 1]) ∧ Below w.heap.size w w') ?_ (fun e x h => ill_walk h)
    clear EC E1 E2 hR hr hk hF
    have hGA0 : Hid ((((w.alloc (.cells #[.slice aS s.slots.length cS, .slice aH s.heads.length cH] 32)).alloc (.cells #[.int .i64 key, .int .i64 cur, .int .i64 stage, .int .i64 state, .int .i64 slot, .int .i64 gen, .int .i64 steps] 34)).alloc (.cells #[.slice none 0 0, .slice none 0 0, .int .i64 0, .int .i64 0, .int .i64 0, .int .i64 0, .int .i64 0, .int .i64 0, .int .i64 0, .int .i64 0] 39)).heap[w.heap.size]? = some (.cells #[.slice aS s.slots.length cS, .slice aH s.heads.length cH] 32)) := by
      show _ = _
      have := blk_alloc (blk_alloc (heap_newG w (.cells #[.slice aS s.slots.length cS, .slice aH s.heads.length cH] 32)) (.cells #[.int .i64 key, .int .i64 cur, .int .i64 stage, .int .i64 state, .int .i64 slot, .int .i64 gen, .int .i64 steps] 34)) (.cells #[.slice none 0 0, .slice none 0 0, .int .i64 0, .int .i64 0, .int .i64 0, .int .i64 0, .int .i64 0, .int .i64 0, .int .i64 0, .int .i64 0] 39)
      simpa using this
    have hGK0 : Hid ((((w.alloc (.cells #[.slice aS s.slots.length cS, .slice aH s.heads.length cH] 32)).alloc (.cells #[.int .i64 key, .int .i64 cur, .int .i64 stage, .int .i64 state, .int .i64 slot, .int .i64 gen, .int .i64 steps] 34)).alloc (.cells #[.slice none 0 0, .slice none 0 0, .int .i64 0, .int .i64 0, .int .i64 0, .int .i64 0, .int .i64 0, .int .i64 0, .int .i64 0, .int .i64 0] 39)).heap[w.heap.size + 1]? = some (.cells #[.int .i64 key, .int .i64 cur, .int .i64 stage, .int .i64 state, .int .i64 slot, .int .i64 gen, .int .i64 steps] 34)) := by
      show _ = _
      have := blk_alloc (heap_newG (w.alloc (.cells #[.slice aS s.slots.length cS, .slice aH s.heads.length cH] 32)) (.cells #[.int .i64 key, .int .i64 cur, .int .i64 stage, .int .i64 state, .int .i64 slot, .int .i64 gen, .int .i64 steps] 34)) (.cells #[.slice none 0 0, .slice none 0 0, .int .i64 0, .int .i64 0, .int .i64 0, .int .i64 0, .int .i64 0, .int .i64 0, .int .i64 0, .int .i64 0] 39)
      simpa using this
    have hGR0 : Hid ((((w.alloc (.cells #[.slice aS s.slots.length cS, .slice aH s.heads.length cH] 32)).alloc (.cells #[.int .i64 key, .int .i64 cur, .int .i64 stage, .int .i64 state, .int .i64 slot, .int .i64 gen, .int .i64 steps] 34)).alloc (.cells #[.slice none 0 0, .slice none 0 0, .int .i64 0, .int .i64 0, .int .i64 0, .int .i64 0, .int .i64 0, .int .i64 0, .int .i64 0, .int .i64 0] 39)).heap[w.heap.size + 2]? = some (.cells #[.slice none 0 0, .slice none 0 0, .int .i64 0, .int .i64 0, .int .i64 0, .int .i64 0, .int .i64 0, .int .i64 0, .int .i64 0, .int .i64 0] 39)) := by
      show _ = _
      have := heap_newG ((w.alloc (.cells #[.slice aS s.slots.length cS, .slice aH s.heads.length cH] 32)).alloc (.cells #[.int .i64 key, .int .i64 cur, .int .i64 stage, .int .i64 state, .int .i64 slot, .int .i64 gen, .int .i64 steps] 34)) (.cells #[.slice none 0 0, .slice none 0 0, .int .i64 0, .int .i64 0, .int .i64 0, .int .i64 0, .int .i64 0, .int .i64 0, .int .i64 0, .int .i64 0] 39)
      simpa using this
    have hL0 := hidS ((((Below.refl w.heap.size w).alloc (Nat.le_refl _) (.cells #[.slice aS s.slots.length cS, .slice aH s.heads.length cH] 32)).alloc (by simp) (.cells #[.int .i64 key, .int .i64 cur, .int .i64 stage, .int .i64 state, .int .i64 slot, .int .i64 gen, .int .i64 steps] 34)).alloc (by simp; omega) (.cells #[.slice none 0 0, .slice none 0 0, .int .i64 0, .int .i64 0, .int .i64 0, .int .i64 0, .int .i64 0, .int .i64 0, .int .i64 0, .int .i64 0] 39))
    go_enter Try.func22, Try.ntmps22
    go_wp2_with fail
    refine (HS.out _ hL0.out).mono ?_
    rintro _ w1 ⟨rfl, hb1⟩
    have hGA1 := hidS (blk_later hGA0.out hb1)
    have hGK1 := hidS (blk_later hGK0.out hb1)
    have hGR1 := hidS (blk_later hGR0.out hb1)
    have hL1 := hidS (hL0.out.trans (hb1.mono hL0.out.size))
    clear hb1 hL0 hGA0 hGK0 hGR0
    have cK0 := blk_cell hGK1.out 0
    have cK1 := blk_cell hGK1.out 1
    have cK2 := blk_cell hGK1.out 2
    have cK3 := blk_cell hGK1.out 3
    have cK4 := blk_cell hGK1.out 4
    have cK5 := blk_cell hGK1.out 5
    have cK6 := blk_cell hGK1.out 6
    simp at cK0 cK1 cK2 cK3 cK4 cK5 cK6
    have kR := blk_cell hGR1.out
    have fR := blk_free hGR1.out
    go_wp2_with fail
    refine bodyPost_ret (v := .agg #[.slice none 0 0, .slice none 0 0, .int .i64 0, .int .i64 0, .int .i64 0, .int .i64 0, .int .i64 0, .int .i64 0, .int .i64 0, .int .i64 1]) (by simp [results, Try.results22, go_sem, *]) rfl ⟨rfl, ?_⟩
    repeat (refine below_at ?_ (by omega))
    exact hL1.out
  obtain ⟨N, rfl⟩ : ∃ N : Nat, n = (N : Int) := ⟨n.toNat, by omega⟩
  have EC : endC s ⟨key, cur, stage, state, slot, gen, steps⟩ (N : Int) = 0 := by unfold endC; rw [if_pos (by rw [hr]; simp; omega)]
  have E1 : endWS s ⟨key, cur, stage, state, slot, gen, steps⟩ (N : Int) = (runP N s ⟨key, cur, stage, state, slot, gen, steps⟩).1 := by unfold endWS; rw [EC, if_pos rfl]; rfl
  have E2 : endWW s ⟨key, cur, stage, state, slot, gen, steps⟩ (N : Int) = (runP N s ⟨key, cur, stage, state, slot, gen, steps⟩).2 := by unfold endWW; rw [EC, if_pos rfl]; rfl
  rw [E1, E2, EC]
  unfold wkRight at hr
  simp only [Bool.and_eq_true] at hr
  obtain ⟨hr, hw⟩ := hr
  obtain ⟨_, n1, n2, n3, n4⟩ := right_leads hr
  obtain ⟨bS, oS, rfl, _⟩ := hR.slots.slot (show 0 < s.slots.length by omega)
  obtain ⟨bH, oH, rfl, _⟩ := hR.heads 0 (by omega)
  have HO := hidS (fun W (h : Below w.heap.size w W) => walkOn_in bS oS bH oH cS cH s key cur stage state slot gen steps N W (hR.later h) hr hw (by omega))
  generalize runP N s ⟨key, cur, stage, state, slot, gen, steps⟩ = FF at HO ⊢
  clear EC E1 E2 hR hr hw hk hF
  have hGA0 : Hid ((((w.alloc (.cells #[.slice (some ⟨bS, oS, none⟩) s.slots.length cS, .slice (some ⟨bH, oH, none⟩) s.heads.length cH] 32)).alloc (.cells #[.int .i64 key, .int .i64 cur, .int .i64 stage, .int .i64 state, .int .i64 slot, .int .i64 gen, .int .i64 steps] 34)).alloc (.cells #[.slice none 0 0, .slice none 0 0, .int .i64 0, .int .i64 0, .int .i64 0, .int .i64 0, .int .i64 0, .int .i64 0, .int .i64 0, .int .i64 0] 39)).heap[w.heap.size]? = some (.cells #[.slice (some ⟨bS, oS, none⟩) s.slots.length cS, .slice (some ⟨bH, oH, none⟩) s.heads.length cH] 32)) := by
    show _ = _
    have := blk_alloc (blk_alloc (heap_newG w (.cells #[.slice (some ⟨bS, oS, none⟩) s.slots.length cS, .slice (some ⟨bH, oH, none⟩) s.heads.length cH] 32)) (.cells #[.int .i64 key, .int .i64 cur, .int .i64 stage, .int .i64 state, .int .i64 slot, .int .i64 gen, .int .i64 steps] 34)) (.cells #[.slice none 0 0, .slice none 0 0, .int .i64 0, .int .i64 0, .int .i64 0, .int .i64 0, .int .i64 0, .int .i64 0, .int .i64 0, .int .i64 0] 39)
    simpa using this
  have hGK0 : Hid ((((w.alloc (.cells #[.slice (some ⟨bS, oS, none⟩) s.slots.length cS, .slice (some ⟨bH, oH, none⟩) s.heads.length cH] 32)).alloc (.cells #[.int .i64 key, .int .i64 cur, .int .i64 stage, .int .i64 state, .int .i64 slot, .int .i64 gen, .int .i64 steps] 34)).alloc (.cells #[.slice none 0 0, .slice none 0 0, .int .i64 0, .int .i64 0, .int .i64 0, .int .i64 0, .int .i64 0, .int .i64 0, .int .i64 0, .int .i64 0] 39)).heap[w.heap.size + 1]? = some (.cells #[.int .i64 key, .int .i64 cur, .int .i64 stage, .int .i64 state, .int .i64 slot, .int .i64 gen, .int .i64 steps] 34)) := by
    show _ = _
    have := blk_alloc (heap_newG (w.alloc (.cells #[.slice (some ⟨bS, oS, none⟩) s.slots.length cS, .slice (some ⟨bH, oH, none⟩) s.heads.length cH] 32)) (.cells #[.int .i64 key, .int .i64 cur, .int .i64 stage, .int .i64 state, .int .i64 slot, .int .i64 gen, .int .i64 steps] 34)) (.cells #[.slice none 0 0, .slice none 0 0, .int .i64 0, .int .i64 0, .int .i64 0, .int .i64 0, .int .i64 0, .int .i64 0, .int .i64 0, .int .i64 0] 39)
    simpa using this
  have hGR0 : Hid ((((w.alloc (.cells #[.slice (some ⟨bS, oS, none⟩) s.slots.length cS, .slice (some ⟨bH, oH, none⟩) s.heads.length cH] 32)).alloc (.cells #[.int .i64 key, .int .i64 cur, .int .i64 stage, .int .i64 state, .int .i64 slot, .int .i64 gen, .int .i64 steps] 34)).alloc (.cells #[.slice none 0 0, .slice none 0 0, .int .i64 0, .int .i64 0, .int .i64 0, .int .i64 0, .int .i64 0, .int .i64 0, .int .i64 0, .int .i64 0] 39)).heap[w.heap.size + 2]? = some (.cells #[.slice none 0 0, .slice none 0 0, .int .i64 0, .int .i64 0, .int .i64 0, .int .i64 0, .int .i64 0, .int .i64 0, .int .i64 0, .int .i64 0] 39)) := by
    show _ = _
    have := heap_newG ((w.alloc (.cells #[.slice (some ⟨bS, oS, none⟩) s.slots.length cS, .slice (some ⟨bH, oH, none⟩) s.heads.length cH] 32)).alloc (.cells #[.int .i64 key, .int .i64 cur, .int .i64 stage, .int .i64 state, .int .i64 slot, .int .i64 gen, .int .i64 steps] 34)) (.cells #[.slice none 0 0, .slice none 0 0, .int .i64 0, .int .i64 0, .int .i64 0, .int .i64 0, .int .i64 0, .int .i64 0, .int .i64 0, .int .i64 0] 39)
    simpa using this
  have hL0 := hidS ((((Below.refl w.heap.size w).alloc (Nat.le_refl _) (.cells #[.slice (some ⟨bS, oS, none⟩) s.slots.length cS, .slice (some ⟨bH, oH, none⟩) s.heads.length cH] 32)).alloc (by simp) (.cells #[.int .i64 key, .int .i64 cur, .int .i64 stage, .int .i64 state, .int .i64 slot, .int .i64 gen, .int .i64 steps] 34)).alloc (by simp; omega) (.cells #[.slice none 0 0, .slice none 0 0, .int .i64 0, .int .i64 0, .int .i64 0, .int .i64 0, .int .i64 0, .int .i64 0, .int .i64 0, .int .i64 0] 39))
  go_enter Try.func22, Try.ntmps22
  go_wp2_with fail
  refine (HS.out _ hL0.out).mono ?_
  rintro _ w1 ⟨rfl, hb1⟩
  have hGA1 := hidS (blk_later hGA0.out hb1)
  have hGK1 := hidS (blk_later hGK0.out hb1)
  have hGR1 := hidS (blk_later hGR0.out hb1)
  have hL1 := hidS (hL0.out.trans (hb1.mono hL0.out.size))
  clear hb1 hL0 hGA0 hGK0 hGR0
  have cA0 := blk_cell hGA1.out 0
  have cA1 := blk_cell hGA1.out 1
  simp at cA0 cA1
  have cK0 := blk_cell hGK1.out 0
  have cK1 := blk_cell hGK1.out 1
  have cK2 := blk_cell hGK1.out 2
  have cK3 := blk_cell hGK1.out 3
  have cK4 := blk_cell hGK1.out 4
  have cK5 := blk_cell hGK1.out 5
  have cK6 := blk_cell hGK1.out 6
  simp at cK0 cK1 cK2 cK3 cK4 cK5 cK6
  go_wp2_with fail
  refine (HO.out _ hL1.out).mono ?_
  rintro _ w2 ⟨aS2, cS2, aH2, cH2, rfl, hO, hb⟩
  have lR := blk_lt hGR1.out
  have hGR := hidS (blk_later hGR1.out hb)
  have hL := hidS (hL1.out.trans (hb.mono hL1.out.size))
  have HO := hidS hO
  clear hb hO hGA1 hGK1 hGR1 hL1 cA0 cA1 cK0 cK1 cK2 cK3 cK4 cK5 cK6
  have kR := blk_cell hGR.out
  have fR := blk_free hGR.out
  go_wp2_with fail
  refine bodyPost_ret (v := .agg #[.slice aS2 (FF.1).slots.length cS2, .slice aH2 (FF.1).heads.length cH2, .int .i64 (FF.2).key, .int .i64 (FF.2).cur, .int .i64 (FF.2).stage, .int .i64 (FF.2).state, .int .i64 (FF.2).slot, .int .i64 (FF.2).gen, .int .i64 (FF.2).steps, .int .i64 0]) (by simp [results, Try.results22, go_sem, *]) rfl ?_
  refine ⟨aS2, cS2, aH2, cH2, rfl, ?_, ?_⟩
  · refine SlabO.low (lo := w.heap.size + 3) ?_ (by omega)
    repeat (refine SlabO.other ?_ (by omega))
    exact HO.out.low (by omega)
  · repeat (refine below_at ?_ (by omega))
    exact hL.out
theorem implWalkEnd_any (aS aH : Option Addr) (cS cH : Nat) (s : Slb) (k : Wlk) (n : Int) (w : World) (hR : SlabZ aS aH s w) (hF : SlabFit s) (h1 : s.slots.length ≤ 1048576) (h2 : s.heads.length ≤ 1048576) (hk : fitW k) :
    Calls Try.prog 22 #[.agg #[.slice aS s.slots.length cS, .slice aH s.heads.length cH], .agg #[.int .i64 k.key, .int .i64 k.cur, .int .i64 k.stage, .int .i64 k.state, .int .i64 k.slot, .int .i64 k.gen, .int .i64 k.steps], .int .i64 n] w fun e w' => WkAns (endWS s k n) (endWW s k n) (endC s k n) w e w' := by
  obtain ⟨key, cur, stage, state, slot, gen, steps⟩ := k
  exact implWalkEnd_in aS aH cS cH s key cur stage state slot gen steps n w hR hF h1 h2 hk
end Go.Proofs.Ytjhkaideckgffaa
