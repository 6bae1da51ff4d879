/- Proved here: the laws' own helpers over walkers and their answers: two alike are alike, what is marked is held (conditions: their rows can be read, or are their own; at most 2^20 numbers). -/
import Derived.Test.YtjhkaideckgffaaAll13
import Derived.Test.YtjhkaideckgffaaWalkMath
namespace Go.Proofs.Ytjhkaideckgffaa
open Go.ChangeShapes Go.WideShapes Go.ChangeAt Go.RowKit
set_option linter.unusedVariables false
set_option linter.unusedSimpArgs false
set_option maxRecDepth 100000

set_option maxHeartbeats 1000000 in
theorem toWalk_any (k : Wlk) (w : World) :
    Calls Try.prog 10 #[.agg #[.int .i64 k.key, .int .i64 k.cur, .int .i64 k.stage, .int .i64 k.state, .int .i64 k.slot, .int .i64 k.gen, .int .i64 k.steps]] w fun e w' => e = .returned (.agg #[.int .i64 k.key, .int .i64 k.cur, .int .i64 k.stage, .int .i64 k.state, .int .i64 k.slot, .int .i64 k.gen, .int .i64 k.steps]) ∧ Below w.heap.size w w' := by
  go_enter Try.func10, Try.ntmps10
  go_wp2
  exact bodyPost_ret (v := .agg #[.int .i64 k.key, .int .i64 k.cur, .int .i64 k.stage, .int .i64 k.state, .int .i64 k.slot, .int .i64 k.gen, .int .i64 k.steps]) (by simp [results, Try.results10, go_sem]) rfl ⟨rfl, by go_grown⟩
set_option maxHeartbeats 1000000 in
theorem eqWalk_any (k : Wlk) (w : World) :
    Calls Try.prog 42 #[.agg #[.int .i64 k.key, .int .i64 k.cur, .int .i64 k.stage, .int .i64 k.state, .int .i64 k.slot, .int .i64 k.gen, .int .i64 k.steps], .agg #[.int .i64 k.key, .int .i64 k.cur, .int .i64 k.stage, .int .i64 k.state, .int .i64 k.slot, .int .i64 k.gen, .int .i64 k.steps]] w fun e w' => e = .returned (.bool true) ∧ Below w.heap.size w w' := by
  go_enter Try.func42, Try.ntmps42
  go_wp2
  go_ret
  exact ⟨rfl, by go_grown⟩
set_option maxHeartbeats 2000000 in
theorem eqWalkOut_any (aS aH aS' aH' : Option Addr) (cS cH cS' cH' : Nat) (s : Slb) (k : Wlk) (code : Int) (w : World) (hR : SlabZ aS aH s w) (hR' : SlabZ aS' aH' s w) (h1 : s.slots.length ≤ 1048576) (h2 : s.heads.length ≤ 1048576) :
    Calls Try.prog 15 #[.agg #[.slice aS s.slots.length cS, .slice aH s.heads.length cH, .int .i64 k.key, .int .i64 k.cur, .int .i64 k.stage, .int .i64 k.state, .int .i64 k.slot, .int .i64 k.gen, .int .i64 k.steps, .int .i64 code], .agg #[.slice aS' s.slots.length cS', .slice aH' s.heads.length cH', .int .i64 k.key, .int .i64 k.cur, .int .i64 k.stage, .int .i64 k.state, .int .i64 k.slot, .int .i64 k.gen, .int .i64 k.steps, .int .i64 code]] w fun e w' => e = .returned (.bool true) ∧ Below w.heap.size w w' := by
  have HR := hidS hR
  have HR' := hidS hR'
  clear hR hR'
  have hGA0 : Hid (((w.alloc (.cells #[.slice aS s.slots.length cS, .slice aH s.heads.length cH, .int .i64 k.key, .int .i64 k.cur, .int .i64 k.stage, .int .i64 k.state, .int .i64 k.slot, .int .i64 k.gen, .int .i64 k.steps, .int .i64 code] 39)).alloc (.cells #[.slice aS' s.slots.length cS', .slice aH' s.heads.length cH', .int .i64 k.key, .int .i64 k.cur, .int .i64 k.stage, .int .i64 k.state, .int .i64 k.slot, .int .i64 k.gen, .int .i64 k.steps, .int .i64 code] 39)).heap[w.heap.size]? = some (.cells #[.slice aS s.slots.length cS, .slice aH s.heads.length cH, .int .i64 k.key, .int .i64 k.cur, .int .i64 k.stage, .int .i64 k.state, .int .i64 k.slot, .int .i64 k.gen, .int .i64 k.steps, .int .i64 code] 39)) := by
    show _ = _
    have := blk_alloc (heap_newG w (.cells #[.slice aS s.slots.length cS, .slice aH s.heads.length cH, .int .i64 k.key, .int .i64 k.cur, .int .i64 k.stage, .int .i64 k.state, .int .i64 k.slot, .int .i64 k.gen, .int .i64 k.steps, .int .i64 code] 39)) (.cells #[.slice aS' s.slots.length cS', .slice aH' s.heads.length cH', .int .i64 k.key, .int .i64 k.cur, .int .i64 k.stage, .int .i64 k.state, .int .i64 k.slot, .int .i64 k.gen, .int .i64 k.steps, .int .i64 code] 39)
    simpa using this
  have hGB0 : Hid (((w.alloc (.cells #[.slice aS s.slots.length cS, .slice aH s.heads.length cH, .int .i64 k.key, .int .i64 k.cur, .int .i64 k.stage, .int .i64 k.state, .int .i64 k.slot, .int .i64 k.gen, .int .i64 k.steps, .int .i64 code] 39)).alloc (.cells #[.slice aS' s.slots.length cS', .slice aH' s.heads.length cH', .int .i64 k.key, .int .i64 k.cur, .int .i64 k.stage, .int .i64 k.state, .int .i64 k.slot, .int .i64 k.gen, .int .i64 k.steps, .int .i64 code] 39)).heap[w.heap.size + 1]? = some (.cells #[.slice aS' s.slots.length cS', .slice aH' s.heads.length cH', .int .i64 k.key, .int .i64 k.cur, .int .i64 k.stage, .int .i64 k.state, .int .i64 k.slot, .int .i64 k.gen, .int .i64 k.steps, .int .i64 code] 39)) := by
    show _ = _
    have := heap_newG (w.alloc (.cells #[.slice aS s.slots.length cS, .slice aH s.heads.length cH, .int .i64 k.key, .int .i64 k.cur, .int .i64 k.stage, .int .i64 k.state, .int .i64 k.slot, .int .i64 k.gen, .int .i64 k.steps, .int .i64 code] 39)) (.cells #[.slice aS' s.slots.length cS', .slice aH' s.heads.length cH', .int .i64 k.key, .int .i64 k.cur, .int .i64 k.stage, .int .i64 k.state, .int .i64 k.slot, .int .i64 k.gen, .int .i64 k.steps, .int .i64 code] 39)
    simpa using this
  have hL0 := hidS (((Below.refl w.heap.size w).alloc (Nat.le_refl _) (.cells #[.slice aS s.slots.length cS, .slice aH s.heads.length cH, .int .i64 k.key, .int .i64 k.cur, .int .i64 k.stage, .int .i64 k.state, .int .i64 k.slot, .int .i64 k.gen, .int .i64 k.steps, .int .i64 code] 39)).alloc (by simp) (.cells #[.slice aS' s.slots.length cS', .slice aH' s.heads.length cH', .int .i64 k.key, .int .i64 k.cur, .int .i64 k.stage, .int .i64 k.state, .int .i64 k.slot, .int .i64 k.gen, .int .i64 k.steps, .int .i64 code] 39))
  go_enter Try.func15, Try.ntmps15
  go_wp2_with fail
  refine (eqSlab_any aS aH aS' aH' cS cH cS' cH' s _ (HR.out.later hL0.out) (HR'.out.later hL0.out) h1 h2).mono ?_
  rintro _ w1 ⟨rfl, hb1⟩
  have hGA1 := hidS (blk_later hGA0.out hb1)
  have hGB1 := hidS (blk_later hGB0.out hb1)
  have hL1 := hidS (hL0.out.trans (hb1.mono hL0.out.size))
  clear hb1 hL0 hGA0 hGB0
  have cA0 := blk_cell hGA1.out 0
  have cA1 := blk_cell hGA1.out 1
  have cA2 := blk_cell hGA1.out 2
  have cA3 := blk_cell hGA1.out 3
  have cA4 := blk_cell hGA1.out 4
  have cA5 := blk_cell hGA1.out 5
  have cA6 := blk_cell hGA1.out 6
  have cA7 := blk_cell hGA1.out 7
  have cA8 := blk_cell hGA1.out 8
  have cA9 := blk_cell hGA1.out 9
  simp at cA0 cA1 cA2 cA3 cA4 cA5 cA6 cA7 cA8 cA9
  have cB0 := blk_cell hGB1.out 0
  have cB1 := blk_cell hGB1.out 1
  have cB2 := blk_cell hGB1.out 2
  have cB3 := blk_cell hGB1.out 3
  have cB4 := blk_cell hGB1.out 4
  have cB5 := blk_cell hGB1.out 5
  have cB6 := blk_cell hGB1.out 6
  have cB7 := blk_cell hGB1.out 7
  have cB8 := blk_cell hGB1.out 8
  have cB9 := blk_cell hGB1.out 9
  simp at cB0 cB1 cB2 cB3 cB4 cB5 cB6 cB7 cB8 cB9
  go_wp2_with fail
  refine (eqWalk_any k _).mono ?_
  rintro _ w2 ⟨rfl, hb2⟩
  clear cA0 cA1 cA2 cA3 cA4 cA5 cA6 cA7 cA8 cA9 cB0 cB1 cB2 cB3 cB4 cB5 cB6 cB7 cB8 cB9
  have hGA2 := hidS (blk_later hGA1.out hb2)
  have hGB2 := hidS (blk_later hGB1.out hb2)
  have hL2 := hidS (hL1.out.trans (hb2.mono hL1.out.size))
  clear hb2 hL1 hGA1 hGB1
  have cA0 := blk_cell hGA2.out 0
  have cA1 := blk_cell hGA2.out 1
  have cA2 := blk_cell hGA2.out 2
  have cA3 := blk_cell hGA2.out 3
  have cA4 := blk_cell hGA2.out 4
  have cA5 := blk_cell hGA2.out 5
  have cA6 := blk_cell hGA2.out 6
  have cA7 := blk_cell hGA2.out 7
  have cA8 := blk_cell hGA2.out 8
  have cA9 := blk_cell hGA2.out 9
  simp at cA0 cA1 cA2 cA3 cA4 cA5 cA6 cA7 cA8 cA9
  have cB0 := blk_cell hGB2.out 0
  have cB1 := blk_cell hGB2.out 1
  have cB2 := blk_cell hGB2.out 2
  have cB3 := blk_cell hGB2.out 3
  have cB4 := blk_cell hGB2.out 4
  have cB5 := blk_cell hGB2.out 5
  have cB6 := blk_cell hGB2.out 6
  have cB7 := blk_cell hGB2.out 7
  have cB8 := blk_cell hGB2.out 8
  have cB9 := blk_cell hGB2.out 9
  simp at cB0 cB1 cB2 cB3 cB4 cB5 cB6 cB7 cB8 cB9
  go_wp2_with fail
  go_ret
  exact ⟨rfl, hL2.out⟩
set_option maxHeartbeats 1000000 in
theorem heldWalkOut_any (aS aH : Option Addr) (cS cH nS nH : Nat) (k : Wlk) (code k0 : Int) (w : World) (hS : RowZ aS (marks k0 (4 * nS)) w) (hH : RowZ aH (marks (k0 + 4 * nS) nH) w) (h1 : nS ≤ 1048576) (h2 : nH ≤ 1048576) (hk0 : 0 ≤ k0) (hk1 : k0 ≤ 1073741824) :
    Calls Try.prog 18 #[.agg #[.slice aS nS cS, .slice aH nH cH, .int .i64 k.key, .int .i64 k.cur, .int .i64 k.stage, .int .i64 k.state, .int .i64 k.slot, .int .i64 k.gen, .int .i64 k.steps, .int .i64 code], .int .i64 k0] w fun e w' => e = .returned (.int .i64 (k0 + 4 * nS + nH)) ∧ Below w.heap.size w w' := by
  have HS := hidS hS
  have HH := hidS hH
  clear hS hH
  have hm : ¬ (k0 + 4 * (nS : Int) + (nH : Int)) < 0 := by omega
  have hGA0 : Hid ((w.alloc (.cells #[.slice aS nS cS, .slice aH nH cH, .int .i64 k.key, .int .i64 k.cur, .int .i64 k.stage, .int .i64 k.state, .int .i64 k.slot, .int .i64 k.gen, .int .i64 k.steps, .int .i64 code] 39)).heap[w.heap.size]? = some (.cells #[.slice aS nS cS, .slice aH nH cH, .int .i64 k.key, .int .i64 k.cur, .int .i64 k.stage, .int .i64 k.state, .int .i64 k.slot, .int .i64 k.gen, .int .i64 k.steps, .int .i64 code] 39)) := by
    show _ = _
    have := heap_newG w (.cells #[.slice aS nS cS, .slice aH nH cH, .int .i64 k.key, .int .i64 k.cur, .int .i64 k.stage, .int .i64 k.state, .int .i64 k.slot, .int .i64 k.gen, .int .i64 k.steps, .int .i64 code] 39)
    simpa using this
  have hL0 := hidS ((Below.refl w.heap.size w).alloc (Nat.le_refl _) (.cells #[.slice aS nS cS, .slice aH nH cH, .int .i64 k.key, .int .i64 k.cur, .int .i64 k.stage, .int .i64 k.state, .int .i64 k.slot, .int .i64 k.gen, .int .i64 k.steps, .int .i64 code] 39))
  go_enter Try.func18, Try.ntmps18
  go_wp2_with fail
  refine (heldSlab_any aS aH cS cH nS nH k0 _ (HS.out.later hL0.out) (HH.out.later hL0.out) h1 h2 hk0 hk1).mono ?_
  rintro _ w1 ⟨rfl, hb1⟩
  have hGA1 := hidS (blk_later hGA0.out hb1)
  have hL1 := hidS (hL0.out.trans (hb1.mono hL0.out.size))
  clear hb1 hL0 hGA0
  go_wp2_with fail
  go_ret
  exact ⟨rfl, hL1.out⟩
set_option maxHeartbeats 1000000 in
theorem markWalkOut_any (lo hi : Nat) (aS aH : Option Addr) (cS cH : Nat) (s : Slb) (k : Wlk) (code k0 : Int) (w : World) (hO : SlabO lo hi aS aH s w) (hhi : hi ≤ w.heap.size) (h1 : s.slots.length ≤ 1048576) (h2 : s.heads.length ≤ 1048576) (hk0 : 0 ≤ k0) (hk1 : k0 ≤ 1073741824) :
    Calls Try.prog 17 #[.agg #[.slice aS s.slots.length cS, .slice aH s.heads.length cH, .int .i64 k.key, .int .i64 k.cur, .int .i64 k.stage, .int .i64 k.state, .int .i64 k.slot, .int .i64 k.gen, .int .i64 k.steps, .int .i64 code], .int .i64 k0] w fun e w' => e = .returned (.int .i64 (k0 + 4 * s.slots.length + s.heads.length)) ∧ OwnR lo hi aS (marks k0 (4 * s.slots.length)) w' ∧ OwnR lo hi aH (marks (k0 + 4 * s.slots.length) s.heads.length) w' ∧ Mid lo hi w w' := by
  have HO := hidS hO
  clear hO
  have hb0 := hidS ((Below.refl w.heap.size w).alloc (Nat.le_refl _) (.cells #[.slice aS s.slots.length cS, .slice aH s.heads.length cH, .int .i64 k.key, .int .i64 k.cur, .int .i64 k.stage, .int .i64 k.state, .int .i64 k.slot, .int .i64 k.gen, .int .i64 k.steps, .int .i64 code] 39))
  go_enter Try.func17, Try.ntmps17
  go_wp2_with fail
  generalize w.alloc (.cells #[.slice aS s.slots.length cS, .slice aH s.heads.length cH, .int .i64 k.key, .int .i64 k.cur, .int .i64 k.stage, .int .i64 k.state, .int .i64 k.slot, .int .i64 k.gen, .int .i64 k.steps, .int .i64 code] 39) = w0 at hb0 ⊢
  refine (markSlab_any lo hi aS aH cS cH s k0 w0 (HO.out.later hb0.out) (Nat.le_trans hhi hb0.out.size) h1 h2 hk0 hk1).mono ?_
  rintro _ w1 ⟨rfl, q1, q2, q3⟩
  have Q1 := hidS q1
  have Q2 := hidS q2
  have Q3 : Hid (Mid lo hi w w1) := hidS ((Below.mid hb0.out).trans q3)
  clear q1 q2 q3
  go_wp2_with fail
  go_ret
  exact ⟨rfl, Q1.out, Q2.out, Q3.out⟩
end Go.Proofs.Ytjhkaideckgffaa
