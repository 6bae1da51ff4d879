/- Proved here: impl.WalkStep answers as the plain function, in memory of its own; all old memory stays (conditions: the slab's rows can be read; at most 2^20 numbers; numbers of int64). -/
import Derived.Test.YtfjgofmjhccdkaaWalkOnI
namespace Go.Proofs.Ytfjgofmjhccdkaa
open Go.ChangeShapes Go.WideShapes Go.ChangeAt Go.RowKit
set_option linter.unusedVariables false
set_option linter.unusedSimpArgs false
set_option maxRecDepth 100000

set_option maxHeartbeats 4000000 in
theorem implWalkStep_in (aS aH : Option Addr) (cS cH : Nat) (s : Slb) (key cur stage state slot gen steps : Int) (w : World) (hR : SlabZ aS aH s w) (hF : SlabFit s) (h1 : s.slots.length ≤ 1048576) (h2 : s.heads.length ≤ 1048576) (hk : fitW ⟨key, cur, stage, state, slot, gen, steps⟩) :
    Calls Try.prog 9 #[.agg #[.slice aS s.slots.length cS, .slice aH s.heads.length cH], .agg #[.int .i64 key, .int .i64 cur, .int .i64 stage, .int .i64 state, .int .i64 slot, .int .i64 gen, .int .i64 steps]] w fun e w' => WkAns (stepWS s ⟨key, cur, stage, state, slot, gen, steps⟩) (stepWW s ⟨key, cur, stage, state, slot, gen, steps⟩) (stepC s ⟨key, cur, stage, state, slot, gen, steps⟩) w e w' := by
  have HS := hidS (fun W (h : Below w.heap.size w W) => implWalkRight_any aS aH cS cH s ⟨key, cur, stage, state, slot, gen, steps⟩ W (hR.later h) hF h1 h2 hk)
  cases hr : wkRight s ⟨key, cur, stage, state, slot, gen, steps⟩
  case false =>
    have EC : stepC s ⟨key, cur, stage, state, slot, gen, steps⟩ = 1 := by unfold stepC; rw [hr]; rfl
    have E1 : stepWS s ⟨key, cur, stage, state, slot, gen, steps⟩ = ⟨[], []⟩ := by unfold stepWS; rw [EC, if_neg (by decide)]
    have E2 : stepWW s ⟨key, cur, stage, state, slot, gen, steps⟩ = zeroW := by unfold stepWW; rw [EC, if_neg (by decide)]
    rw [E1, E2, EC]
    refine Calls.mono (R := fun e w' => e = .returned (.agg #[.slice none 0 0, .slice none 0 0, .int .i64 0, .int .i64 0, .int .i64 0, .int .i64 0, .int .i64 0, .int .i64 0, .int .i64 0, .int .i64 1]) ∧ Below w.heap.size w w') ?_ (fun e x h => ill_walk h)
    rw [hr] at HS
    clear EC E1 E2 hR hr hk hF
    have hGA0 : Hid ((((w.alloc (.cells #[.slice aS s.slots.length cS, .slice aH s.heads.length cH] 26)).alloc (.cells #[.int .i64 key, .int .i64 cur, .int .i64 stage, .int .i64 state, .int .i64 slot, .int .i64 gen, .int .i64 steps] 30)).alloc (.cells #[.slice none 0 0, .slice none 0 0, .int .i64 0, .int .i64 0, .int .i64 0, .int .i64 0, .int .i64 0, .int .i64 0, .int .i64 0, .int .i64 0] 32)).heap[w.heap.size]? = some (.cells #[.slice aS s.slots.length cS, .slice aH s.heads.length cH] 26)) := by
      show _ = _
      have := blk_alloc (blk_alloc (heap_newG w (.cells #[.slice aS s.slots.length cS, .slice aH s.heads.length cH] 26)) (.cells #[.int .i64 key, .int .i64 cur, .int .i64 stage, .int .i64 state, .int .i64 slot, .int .i64 gen, .int .i64 steps] 30)) (.cells #[.slice none 0 0, .slice none 0 0, .int .i64 0, .int .i64 0, .int .i64 0, .int .i64 0, .int .i64 0, .int .i64 0, .int .i64 0, .int .i64 0] 32)
      simpa using this
    have hGK0 : Hid ((((w.alloc (.cells #[.slice aS s.slots.length cS, .slice aH s.heads.length cH] 26)).alloc (.cells #[.int .i64 key, .int .i64 cur, .int .i64 stage, .int .i64 state, .int .i64 slot, .int .i64 gen, .int .i64 steps] 30)).alloc (.cells #[.slice none 0 0, .slice none 0 0, .int .i64 0, .int .i64 0, .int .i64 0, .int .i64 0, .int .i64 0, .int .i64 0, .int .i64 0, .int .i64 0] 32)).heap[w.heap.size + 1]? = some (.cells #[.int .i64 key, .int .i64 cur, .int .i64 stage, .int .i64 state, .int .i64 slot, .int .i64 gen, .int .i64 steps] 30)) := by
      show _ = _
      have := blk_alloc (heap_newG (w.alloc (.cells #[.slice aS s.slots.length cS, .slice aH s.heads.length cH] 26)) (.cells #[.int .i64 key, .int .i64 cur, .int .i64 stage, .int .i64 state, .int .i64 slot, .int .i64 gen, .int .i64 steps] 30)) (.cells #[.slice none 0 0, .slice none 0 0, .int .i64 0, .int .i64 0, .int .i64 0, .int .i64 0, .int .i64 0, .int .i64 0, .int .i64 0, .int .i64 0] 32)
      simpa using this
    have hGR0 : Hid ((((w.alloc (.cells #[.slice aS s.slots.length cS, .slice aH s.heads.length cH] 26)).alloc (.cells #[.int .i64 key, .int .i64 cur, .int .i64 stage, .int .i64 state, .int .i64 slot, .int .i64 gen, .int .i64 steps] 30)).alloc (.cells #[.slice none 0 0, .slice none 0 0, .int .i64 0, .int .i64 0, .int .i64 0, .int .i64 0, .int .i64 0, .int .i64 0, .int .i64 0, .int .i64 0] 32)).heap[w.heap.size + 2]? = some (.cells #[.slice none 0 0, .slice none 0 0, .int .i64 0, .int .i64 0, .int .i64 0, .int .i64 0, .int .i64 0, .int .i64 0, .int .i64 0, .int .i64 0] 32)) := by
      show _ = _
      have := heap_newG ((w.alloc (.cells #[.slice aS s.slots.length cS, .slice aH s.heads.length cH] 26)).alloc (.cells #[.int .i64 key, .int .i64 cur, .int .i64 stage, .int .i64 state, .int .i64 slot, .int .i64 gen, .int .i64 steps] 30)) (.cells #[.slice none 0 0, .slice none 0 0, .int .i64 0, .int .i64 0, .int .i64 0, .int .i64 0, .int .i64 0, .int .i64 0, .int .i64 0, .int .i64 0] 32)
      simpa using this
    have hL0 := hidS ((((Below.refl w.heap.size w).alloc (Nat.le_refl _) (.cells #[.slice aS s.slots.length cS, .slice aH s.heads.length cH] 26)).alloc (by simp) (.cells #[.int .i64 key, .int .i64 cur, .int .i64 stage, .int .i64 state, .int .i64 slot, .int .i64 gen, .int .i64 steps] 30)).alloc (by simp; omega) (.cells #[.slice none 0 0, .slice none 0 0, .int .i64 0, .int .i64 0, .int .i64 0, .int .i64 0, .int .i64 0, .int .i64 0, .int .i64 0, .int .i64 0] 32))
    go_enter Try.func9, Try.ntmps9
    go_wp2_with fail
    refine (HS.out _ hL0.out).mono ?_
    rintro _ w1 ⟨rfl, hb1⟩
    have hGA1 := hidS (blk_later hGA0.out hb1)
    have hGK1 := hidS (blk_later hGK0.out hb1)
    have hGR1 := hidS (blk_later hGR0.out hb1)
    have hL1 := hidS (hL0.out.trans (hb1.mono hL0.out.size))
    clear hb1 hL0 hGA0 hGK0 hGR0
    have cK0 := blk_cell hGK1.out 0
    have cK1 := blk_cell hGK1.out 1
    have cK2 := blk_cell hGK1.out 2
    have cK3 := blk_cell hGK1.out 3
    have cK4 := blk_cell hGK1.out 4
    have cK5 := blk_cell hGK1.out 5
    have cK6 := blk_cell hGK1.out 6
    simp at cK0 cK1 cK2 cK3 cK4 cK5 cK6
    have kR := blk_cell hGR1.out
    have fR := blk_free hGR1.out
    go_wp2_with fail
    refine bodyPost_ret (v := .agg #[.slice none 0 0, .slice none 0 0, .int .i64 0, .int .i64 0, .int .i64 0, .int .i64 0, .int .i64 0, .int .i64 0, .int .i64 0, .int .i64 1]) (by simp [results, Try.results9, go_sem, *]) rfl ⟨rfl, ?_⟩
    repeat (refine below_at ?_ (by omega))
    exact hL1.out
  rw [hr] at HS
  by_cases hs : state = 0
  case neg =>
    have EC : stepC s ⟨key, cur, stage, state, slot, gen, steps⟩ = 10 := by unfold stepC; rw [hr, if_pos rfl, if_neg hs]
    have E1 : stepWS s ⟨key, cur, stage, state, slot, gen, steps⟩ = ⟨[], []⟩ := by unfold stepWS; rw [EC, if_neg (by decide)]
    have E2 : stepWW s ⟨key, cur, stage, state, slot, gen, steps⟩ = zeroW := by unfold stepWW; rw [EC, if_neg (by decide)]
    rw [E1, E2, EC]
    refine Calls.mono (R := fun e w' => e = .returned (.agg #[.slice none 0 0, .slice none 0 0, .int .i64 0, .int .i64 0, .int .i64 0, .int .i64 0, .int .i64 0, .int .i64 0, .int .i64 0, .int .i64 10]) ∧ Below w.heap.size w w') ?_ (fun e x h => ill_walk h)
    have hsb : (state == 0) = false := beq_eq_false_iff_ne.2 hs
    clear EC E1 E2 hR hr hk hF hs
    have hGA0 : Hid ((((w.alloc (.cells #[.slice aS s.slots.length cS, .slice aH s.heads.length cH] 26)).alloc (.cells #[.int .i64 key, .int .i64 cur, .int .i64 stage, .int .i64 state, .int .i64 slot, .int .i64 gen, .int .i64 steps] 30)).alloc (.cells #[.slice none 0 0, .slice none 0 0, .int .i64 0, .int .i64 0, .int .i64 0, .int .i64 0, .int .i64 0, .int .i64 0, .int .i64 0, .int .i64 0] 32)).heap[w.heap.size]? = some (.cells #[.slice aS s.slots.length cS, .slice aH s.heads.length cH] 26)) := by
      show _ = _
      have := blk_alloc (blk_alloc (heap_newG w (.cells #[.slice aS s.slots.length cS, .slice aH s.heads.length cH] 26)) (.cells #[.int .i64 key, .int .i64 cur, .int .i64 stage, .int .i64 state, .int .i64 slot, .int .i64 gen, .int .i64 steps] 30)) (.cells #[.slice none 0 0, .slice none 0 0, .int .i64 0, .int .i64 0, .int .i64 0, .int .i64 0, .int .i64 0, .int .i64 0, .int .i64 0, .int .i64 0] 32)
      simpa using this
    have hGK0 : Hid ((((w.alloc (.cells #[.slice aS s.slots.length cS, .slice aH s.heads.length cH] 26)).alloc (.cells #[.int .i64 key, .int .i64 cur, .int .i64 stage, .int .i64 state, .int .i64 slot, .int .i64 gen, .int .i64 steps] 30)).alloc (.cells #[.slice none 0 0, .slice none 0 0, .int .i64 0, .int .i64 0, .int .i64 0, .int .i64 0, .int .i64 0, .int .i64 0, .int .i64 0, .int .i64 0] 32)).heap[w.heap.size + 1]? = some (.cells #[.int .i64 key, .int .i64 cur, .int .i64 stage, .int .i64 state, .int .i64 slot, .int .i64 gen, .int .i64 steps] 30)) := by
      show _ = _
      have := blk_alloc (heap_newG (w.alloc (.cells #[.slice aS s.slots.length cS, .slice aH s.heads.length cH] 26)) (.cells #[.int .i64 key, .int .i64 cur, .int .i64 stage, .int .i64 state, .int .i64 slot, .int .i64 gen, .int .i64 steps] 30)) (.cells #[.slice none 0 0, .slice none 0 0, .int .i64 0, .int .i64 0, .int .i64 0, .int .i64 0, .int .i64 0, .int .i64 0, .int .i64 0, .int .i64 0] 32)
      simpa using this
    have hGR0 : Hid ((((w.alloc (.cells #[.slice aS s.slots.length cS, .slice aH s.heads.length cH] 26)).alloc (.cells #[.int .i64 key, .int .i64 cur, .int .i64 stage, .int .i64 state, .int .i64 slot, .int .i64 gen, .int .i64 steps] 30)).alloc (.cells #[.slice none 0 0, .slice none 0 0, .int .i64 0, .int .i64 0, .int .i64 0, .int .i64 0, .int .i64 0, .int .i64 0, .int .i64 0, .int .i64 0] 32)).heap[w.heap.size + 2]? = some (.cells #[.slice none 0 0, .slice none 0 0, .int .i64 0, .int .i64 0, .int .i64 0, .int .i64 0, .int .i64 0, .int .i64 0, .int .i64 0, .int .i64 0] 32)) := by
      show _ = _
      have := heap_newG ((w.alloc (.cells #[.slice aS s.slots.length cS, .slice aH s.heads.length cH] 26)).alloc (.cells #[.int .i64 key, .int .i64 cur, .int .i64 stage, .int .i64 state, .int .i64 slot, .int .i64 gen, .int .i64 steps] 30)) (.cells #[.slice none 0 0, .slice none 0 0, .int .i64 0, .int .i64 0, .int .i64 0, .int .i64 0, .int .i64 0, .int .i64 0, .int .i64 0, .int .i64 0] 32)
      simpa using this
    have hL0 := hidS ((((Below.refl w.heap.size w).alloc (Nat.le_refl _) (.cells #[.slice aS s.slots.length cS, .slice aH s.heads.length cH] 26)).alloc (by simp) (.cells #[.int .i64 key, .int .i64 cur, .int .i64 stage, .int .i64 state, .int .i64 slot, .int .i64 gen, .int .i64 steps] 30)).alloc (by simp; omega) (.cells #[.slice none 0 0, .slice none 0 0, .int .i64 0, .int .i64 0, .int .i64 0, .int .i64 0, .int .i64 0, .int .i64 0, .int .i64 0, .int .i64 0] 32))
    go_enter Try.func9, Try.ntmps9
    go_wp2_with fail
    refine (HS.out _ hL0.out).mono ?_
    rintro _ w1 ⟨rfl, hb1⟩
    have hGA1 := hidS (blk_later hGA0.out hb1)
    have hGK1 := hidS (blk_later hGK0.out hb1)
    have hGR1 := hidS (blk_later hGR0.out hb1)
    have hL1 := hidS (hL0.out.trans (hb1.mono hL0.out.size))
    clear hb1 hL0 hGA0 hGK0 hGR0
    have cK0 := blk_cell hGK1.out 0
    have cK1 := blk_cell hGK1.out 1
    have cK2 := blk_cell hGK1.out 2
    have cK3 := blk_cell hGK1.out 3
    have cK4 := blk_cell hGK1.out 4
    have cK5 := blk_cell hGK1.out 5
    have cK6 := blk_cell hGK1.out 6
    simp at cK0 cK1 cK2 cK3 cK4 cK5 cK6
    have kR := blk_cell hGR1.out
    have fR := blk_free hGR1.out
    go_wp2_with fail
    refine bodyPost_ret (v := .agg #[.slice none 0 0, .slice none 0 0, .int .i64 0, .int .i64 0, .int .i64 0, .int .i64 0, .int .i64 0, .int .i64 0, .int .i64 0, .int .i64 10]) (by simp [results, Try.results9, go_sem, *]) rfl ⟨rfl, ?_⟩
    repeat (refine below_at ?_ (by omega))
    exact hL1.out
  subst hs
  unfold wkRight at hr
  simp only [Bool.and_eq_true] at hr
  obtain ⟨hr, hw⟩ := hr
  obtain ⟨_, _, _, ht0, ht1⟩ := wk_parts.1 hw
  simp only at ht0 ht1
  by_cases ht : steps < 1000000
  case neg =>
    have EC : stepC s ⟨key, cur, stage, 0, slot, gen, steps⟩ = 9 := by unfold stepC; rw [if_pos (by unfold wkRight; rw [hr, hw]; rfl : wkRight s ⟨key, cur, stage, 0, slot, gen, steps⟩ = true), if_pos rfl, if_neg ht]
    have E1 : stepWS s ⟨key, cur, stage, 0, slot, gen, steps⟩ = ⟨[], []⟩ := by unfold stepWS; rw [EC, if_neg (by decide)]
    have E2 : stepWW s ⟨key, cur, stage, 0, slot, gen, steps⟩ = zeroW := by unfold stepWW; rw [EC, if_neg (by decide)]
    rw [E1, E2, EC]
    refine Calls.mono (R := fun e w' => e = .returned (.agg #[.slice none 0 0, .slice none 0 0, .int .i64 0, .int .i64 0, .int .i64 0, .int .i64 0, .int .i64 0, .int .i64 0, .int .i64 0, .int .i64 9]) ∧ Below w.heap.size w w') ?_ (fun e x h => ill_walk h)
    have htb : (steps == 1000000) = true := beq_iff_eq.2 (by omega)
    clear EC E1 E2 hR hr hw hk hF ht
    have hGA0 : Hid ((((w.alloc (.cells #[.slice aS s.slots.length cS, .slice aH s.heads.length cH] 26)).alloc (.cells #[.int .i64 key, .int .i64 cur, .int .i64 stage, .int .i64 0, .int .i64 slot, .int .i64 gen, .int .i64 steps] 30)).alloc (.cells #[.slice none 0 0, .slice none 0 0, .int .i64 0, .int .i64 0, .int .i64 0, .int .i64 0, .int .i64 0, .int .i64 0, .int .i64 0, .int .i64 0] 32)).heap[w.heap.size]? = some (.cells #[.slice aS s.slots.length cS, .slice aH s.heads.length cH] 26)) := by
      show _ = _
      have := blk_alloc (blk_alloc (heap_newG w (.cells #[.slice aS s.slots.length cS, .slice aH s.heads.length cH] 26)) (.cells #[.int .i64 key, .int .i64 cur, .int .i64 stage, .int .i64 0, .int .i64 slot, .int .i64 gen, .int .i64 steps] 30)) (.cells #[.slice none 0 0, .slice none 0 0, .int .i64 0, .int .i64 0, .int .i64 0, .int .i64 0, .int .i64 0, .int .i64 0, .int .i64 0, .int .i64 0] 32)
      simpa using this
    have hGK0 : Hid ((((w.alloc (.cells #[.slice aS s.slots.length cS, .slice aH s.heads.length cH] 26)).alloc (.cells #[.int .i64 key, .int .i64 cur, .int .i64 stage, .int .i64 0, .int .i64 slot, .int .i64 gen, .int .i64 steps] 30)).alloc (.cells #[.slice none 0 0, .slice none 0 0, .int .i64 0, .int .i64 0, .int .i64 0, .int .i64 0, .int .i64 0, .int .i64 0, .int .i64 0, .int .i64 0] 32)).heap[w.heap.size + 1]? = some (.cells #[.int .i64 key, .int .i64 cur, .int .i64 stage, .int .i64 0, .int .i64 slot, .int .i64 gen, .int .i64 steps] 30)) := by
      show _ = _
      have := blk_alloc (heap_newG (w.alloc (.cells #[.slice aS s.slots.length cS, .slice aH s.heads.length cH] 26)) (.cells #[.int .i64 key, .int .i64 cur, .int .i64 stage, .int .i64 0, .int .i64 slot, .int .i64 gen, .int .i64 steps] 30)) (.cells #[.slice none 0 0, .slice none 0 0, .int .i64 0, .int .i64 0, .int .i64 0, .int .i64 0, .int .i64 0, .int .i64 0, .int .i64 0, .int .i64 0] 32)
      simpa using this
    have hGR0 : Hid ((((w.alloc (.cells #[.slice aS s.slots.length cS, .slice aH s.heads.length cH] 26)).alloc (.cells #[.int .i64 key, .int .i64 cur, .int .i64 stage, .int .i64 0, .int .i64 slot, .int .i64 gen, .int .i64 steps] 30)).alloc (.cells #[.slice none 0 0, .slice none 0 0, .int .i64 0, .int .i64 0, .int .i64 0, .int .i64 0, .int .i64 0, .int .i64 0, .int .i64 0, .int .i64 0] 32)).heap[w.heap.size + 2]? = some (.cells #[.slice none 0 0, .slice none 0 0, .int .i64 0, .int .i64 0, .int .i64 0, .int .i64 0, .int .i64 0, .int .i64 0, .int .i64 0, .int .i64 0] 32)) := by
      show _ = _
      have := heap_newG ((w.alloc (.cells #[.slice aS s.slots.length cS, .slice aH s.heads.length cH] 26)).alloc (.cells #[.int .i64 key, .int .i64 cur, .int .i64 stage, .int .i64 0, .int .i64 slot, .int .i64 gen, .int .i64 steps] 30)) (.cells #[.slice none 0 0, .slice none 0 0, .int .i64 0, .int .i64 0, .int .i64 0, .int .i64 0, .int .i64 0, .int .i64 0, .int .i64 0, .int .i64 0] 32)
      simpa using this
    have hL0 := hidS ((((Below.refl w.heap.size w).alloc (Nat.le_refl _) (.cells #[.slice aS s.slots.length cS, .slice aH s.heads.length cH] 26)).alloc (by simp) (.cells #[.int .i64 key, .int .i64 cur, .int .i64 stage, .int .i64 0, .int .i64 slot, .int .i64 gen, .int .i64 steps] 30)).alloc (by simp; omega) (.cells #[.slice none 0 0, .slice none 0 0, .int .i64 0, .int .i64 0, .int .i64 0, .int .i64 0, .int .i64 0, .int .i64 0, .int .i64 0, .int .i64 0] 32))
    go_enter Try.func9, Try.ntmps9
    go_wp2_with fail
    refine (HS.out _ hL0.out).mono ?_
    rintro _ w1 ⟨rfl, hb1⟩
    have hGA1 := hidS (blk_later hGA0.out hb1)
    have hGK1 := hidS (blk_later hGK0.out hb1)
    have hGR1 := hidS (blk_later hGR0.out hb1)
    have hL1 := hidS (hL0.out.trans (hb1.mono hL0.out.size))
    clear hb1 hL0 hGA0 hGK0 hGR0
    have cK0 := blk_cell hGK1.out 0
    have cK1 := blk_cell hGK1.out 1
    have cK2 := blk_cell hGK1.out 2
    have cK3 := blk_cell hGK1.out 3
    have cK4 := blk_cell hGK1.out 4
    have cK5 := blk_cell hGK1.out 5
    have cK6 := blk_cell hGK1.out 6
    simp at cK0 cK1 cK2 cK3 cK4 cK5 cK6
    have kR := blk_cell hGR1.out
    have fR := blk_free hGR1.out
    go_wp2_with fail
    refine bodyPost_ret (v := .agg #[.slice none 0 0, .slice none 0 0, .int .i64 0, .int .i64 0, .int .i64 0, .int .i64 0, .int .i64 0, .int .i64 0, .int .i64 0, .int .i64 9]) (by simp [results, Try.results9, go_sem, *]) rfl ⟨rfl, ?_⟩
    repeat (refine below_at ?_ (by omega))
    exact hL1.out
  have htb : (steps == 1000000) = false := beq_eq_false_iff_ne.2 (by omega)
  have EC : stepC s ⟨key, cur, stage, 0, slot, gen, steps⟩ = 0 := by unfold stepC; rw [if_pos (by unfold wkRight; rw [hr, hw]; rfl : wkRight s ⟨key, cur, stage, 0, slot, gen, steps⟩ = true), if_pos rfl, if_pos ht]
  have hgo : goB ⟨key, cur, stage, 0, slot, gen, steps⟩ = true := by unfold goB; simp [ht]
  have ER : runP 1 s ⟨key, cur, stage, 0, slot, gen, steps⟩ = stepP s ⟨key, cur, stage, 0, slot, gen, steps⟩ := by rw [run_go hgo]; rfl
  have E1 : stepWS s ⟨key, cur, stage, 0, slot, gen, steps⟩ = (runP 1 s ⟨key, cur, stage, 0, slot, gen, steps⟩).1 := by unfold stepWS; rw [EC, if_pos rfl, ER]
  have E2 : stepWW s ⟨key, cur, stage, 0, slot, gen, steps⟩ = (runP 1 s ⟨key, cur, stage, 0, slot, gen, steps⟩).2 := by unfold stepWW; rw [EC, if_pos rfl, ER]
  rw [E1, E2, EC]
  obtain ⟨_, n1, n2, n3, n4⟩ := right_leads hr
  obtain ⟨bS, oS, rfl, _⟩ := hR.slots.slot (show 0 < s.slots.length by omega)
  obtain ⟨bH, oH, rfl, _⟩ := hR.heads 0 (by omega)
  have HO := hidS (fun W (h : Below w.heap.size w W) => walkOn_in bS oS bH oH cS cH s key cur stage 0 slot gen steps 1 W (hR.later h) hr hw (by omega))
  generalize runP 1 s ⟨key, cur, stage, 0, slot, gen, steps⟩ = FF at HO ⊢
  clear EC ER E1 E2 hR hr hw hk hF hgo ht0 ht1 ht
  have hGA0 : Hid ((((w.alloc (.cells #[.slice (some ⟨bS, oS, none⟩) s.slots.length cS, .slice (some ⟨bH, oH, none⟩) s.heads.length cH] 26)).alloc (.cells #[.int .i64 key, .int .i64 cur, .int .i64 stage, .int .i64 0, .int .i64 slot, .int .i64 gen, .int .i64 steps] 30)).alloc (.cells #[.slice none 0 0, .slice none 0 0, .int .i64 0, .int .i64 0, .int .i64 0, .int .i64 0, .int .i64 0, .int .i64 0, .int .i64 0, .int .i64 0] 32)).heap[w.heap.size]? = some (.cells #[.slice (some ⟨bS, oS, none⟩) s.slots.length cS, .slice (some ⟨bH, oH, none⟩) s.heads.length cH] 26)) := by
    show _ = _
    have := blk_alloc (blk_alloc (heap_newG w (.cells #[.slice (some ⟨bS, oS, none⟩) s.slots.length cS, .slice (some ⟨bH, oH, none⟩) s.heads.length cH] 26)) (.cells #[.int .i64 key, .int .i64 cur, .int .i64 stage, .int .i64 0, .int .i64 slot, .int .i64 gen, .int .i64 steps] 30)) (.cells #[.slice none 0 0, .slice none 0 0, .int .i64 0, .int .i64 0, .int .i64 0, .int .i64 0, .int .i64 0, .int .i64 0, .int .i64 0, .int .i64 0] 32)
    simpa using this
  have hGK0 : Hid ((((w.alloc (.cells #[.slice (some ⟨bS, oS, none⟩) s.slots.length cS, .slice (some ⟨bH, oH, none⟩) s.heads.length cH] 26)).alloc (.cells #[.int .i64 key, .int .i64 cur, .int .i64 stage, .int .i64 0, .int .i64 slot, .int .i64 gen, .int .i64 steps] 30)).alloc (.cells #[.slice none 0 0, .slice none 0 0, .int .i64 0, .int .i64 0, .int .i64 0, .int .i64 0, .int .i64 0, .int .i64 0, .int .i64 0, .int .i64 0] 32)).heap[w.heap.size + 1]? = some (.cells #[.int .i64 key, .int .i64 cur, .int .i64 stage, .int .i64 0, .int .i64 slot, .int .i64 gen, .int .i64 steps] 30)) := by
    show _ = _
    have := blk_alloc (heap_newG (w.alloc (.cells #[.slice (some ⟨bS, oS, none⟩) s.slots.length cS, .slice (some ⟨bH, oH, none⟩) s.heads.length cH] 26)) (.cells #[.int .i64 key, .int .i64 cur, .int .i64 stage, .int .i64 0, .int .i64 slot, .int .i64 gen, .int .i64 steps] 30)) (.cells #[.slice none 0 0, .slice none 0 0, .int .i64 0, .int .i64 0, .int .i64 0, .int .i64 0, .int .i64 0, .int .i64 0, .int .i64 0, .int .i64 0] 32)
    simpa using this
  have hGR0 : Hid ((((w.alloc (.cells #[.slice (some ⟨bS, oS, none⟩) s.slots.length cS, .slice (some ⟨bH, oH, none⟩) s.heads.length cH] 26)).alloc (.cells #[.int .i64 key, .int .i64 cur, .int .i64 stage, .int .i64 0, .int .i64 slot, .int .i64 gen, .int .i64 steps] 30)).alloc (.cells #[.slice none 0 0, .slice none 0 0, .int .i64 0, .int .i64 0, .int .i64 0, .int .i64 0, .int .i64 0, .int .i64 0, .int .i64 0, .int .i64 0] 32)).heap[w.heap.size + 2]? = some (.cells #[.slice none 0 0, .slice none 0 0, .int .i64 0, .int .i64 0, .int .i64 0, .int .i64 0, .int .i64 0, .int .i64 0, .int .i64 0, .int .i64 0] 32)) := by
    show _ = _
    have := heap_newG ((w.alloc (.cells #[.slice (some ⟨bS, oS, none⟩) s.slots.length cS, .slice (some ⟨bH, oH, none⟩) s.heads.length cH] 26)).alloc (.cells #[.int .i64 key, .int .i64 cur, .int .i64 stage, .int .i64 0, .int .i64 slot, .int .i64 gen, .int .i64 steps] 30)) (.cells #[.slice none 0 0, .slice none 0 0, .int .i64 0, .int .i64 0, .int .i64 0, .int .i64 0, .int .i64 0, .int .i64 0, .int .i64 0, .int .i64 0] 32)
    simpa using this
  have hL0 := hidS ((((Below.refl w.heap.size w).alloc (Nat.le_refl _) (.cells #[.slice (some ⟨bS, oS, none⟩) s.slots.length cS, .slice (some ⟨bH, oH, none⟩) s.heads.length cH] 26)).alloc (by simp) (.cells #[.int .i64 key, .int .i64 cur, .int .i64 stage, .int .i64 0, .int .i64 slot, .int .i64 gen, .int .i64 steps] 30)).alloc (by simp; omega) (.cells #[.slice none 0 0, .slice none 0 0, .int .i64 0, .int .i64 0, .int .i64 0, .int .i64 0, .int .i64 0, .int .i64 0, .int .i64 0, .int .i64 0] 32))
  go_enter Try.func9, Try.ntmps9
  go_wp2_with fail
  refine (HS.out _ hL0.out).mono ?_
  rintro _ w1 ⟨rfl, hb1⟩
  have hGA1 := hidS (blk_later hGA0.out hb1)
  have hGK1 := hidS (blk_later hGK0.out hb1)
  have hGR1 := hidS (blk_later hGR0.out hb1)
  have hL1 := hidS (hL0.out.trans (hb1.mono hL0.out.size))
  clear hb1 hL0 hGA0 hGK0 hGR0
  have cA0 := blk_cell hGA1.out 0
  have cA1 := blk_cell hGA1.out 1
  simp at cA0 cA1
  have cK0 := blk_cell hGK1.out 0
  have cK1 := blk_cell hGK1.out 1
  have cK2 := blk_cell hGK1.out 2
  have cK3 := blk_cell hGK1.out 3
  have cK4 := blk_cell hGK1.out 4
  have cK5 := blk_cell hGK1.out 5
  have cK6 := blk_cell hGK1.out 6
  simp at cK0 cK1 cK2 cK3 cK4 cK5 cK6
  go_wp2_with fail
  refine (HO.out _ hL1.out).mono ?_
  rintro _ w2 ⟨aS2, cS2, aH2, cH2, rfl, hO, hb⟩
  have lR := blk_lt hGR1.out
  have hGR := hidS (blk_later hGR1.out hb)
  have hL := hidS (hL1.out.trans (hb.mono hL1.out.size))
  have HO := hidS hO
  clear hb hO hGA1 hGK1 hGR1 hL1 cA0 cA1 cK0 cK1 cK2 cK3 cK4 cK5 cK6
  have kR := blk_cell hGR.out
  have fR := blk_free hGR.out
  go_wp2_with fail
  refine bodyPost_ret (v := .agg #[.slice aS2 (FF.1).slots.length cS2, .slice aH2 (FF.1).heads.length cH2, .int .i64 (FF.2).key, .int .i64 (FF.2).cur, .int .i64 (FF.2).stage, .int .i64 (FF.2).state, .int .i64 (FF.2).slot, .int .i64 (FF.2).gen, .int .i64 (FF.2).steps, .int .i64 0]) (by simp [results, Try.results9, go_sem, *]) rfl ?_
  refine ⟨aS2, cS2, aH2, cH2, rfl, ?_, ?_⟩
  · refine SlabO.low (lo := w.heap.size + 3) ?_ (by omega)
    repeat (refine SlabO.other ?_ (by omega))
    exact HO.out.low (by omega)
  · repeat (refine below_at ?_ (by omega))
    exact hL.out
theorem implWalkStep_any (aS aH : Option Addr) (cS cH : Nat) (s : Slb) (k : Wlk) (w : World) (hR : SlabZ aS aH s w) (hF : SlabFit s) (h1 : s.slots.length ≤ 1048576) (h2 : s.heads.length ≤ 1048576) (hk : fitW k) :
    Calls Try.prog 9 #[.agg #[.slice aS s.slots.length cS, .slice aH s.heads.length cH], .agg #[.int .i64 k.key, .int .i64 k.cur, .int .i64 k.stage, .int .i64 k.state, .int .i64 k.slot, .int .i64 k.gen, .int .i64 k.steps]] w fun e w' => WkAns (stepWS s k) (stepWW s k) (stepC s k) w e w' := by
  obtain ⟨key, cur, stage, state, slot, gen, steps⟩ := k
  exact implWalkStep_in aS aH cS cH s key cur stage state slot gen steps w hR hF h1 h2 hk
end Go.Proofs.Ytfjgofmjhccdkaa
