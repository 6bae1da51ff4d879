/- Proved here: the laws' own helpers over answers of slabs: two alike are alike, what is marked is held (conditions: their rows can be read, or are their own; at most 2^20 numbers). -/
import Derived.Test.YtcakaoglpfokkajLawsSlab3
namespace Go.Proofs.Ytcakaoglpfokkaj
open Go.ChangeShapes Go.WideShapes Go.ChangeAt Go.RowKit
set_option linter.unusedVariables false
set_option linter.unusedSimpArgs false
set_option maxRecDepth 100000

set_option maxHeartbeats 1000000 in
theorem eqSlabOut_any (aS aH aS' aH' : Option Addr) (cS cH cS' cH' : Nat) (s : Slb) (at1 code : Int) (w : World) (hR : SlabZ aS aH s w) (hR' : SlabZ aS' aH' s w) (h1 : s.slots.length ≤ 1048576) (h2 : s.heads.length ≤ 1048576) :
    Calls Try.prog 12 #[.agg #[.slice aS s.slots.length cS, .slice aH s.heads.length cH, .int .i64 at1, .int .i64 code], .agg #[.slice aS' s.slots.length cS', .slice aH' s.heads.length cH', .int .i64 at1, .int .i64 code]] w fun e w' => e = .returned (.bool true) ∧ Below w.heap.size w w' := by
  have HR := hidS hR
  have HR' := hidS hR'
  clear hR hR'
  have hGA0 : Hid (((w.alloc (.cells #[.slice aS s.slots.length cS, .slice aH s.heads.length cH, .int .i64 at1, .int .i64 code] 31)).alloc (.cells #[.slice aS' s.slots.length cS', .slice aH' s.heads.length cH', .int .i64 at1, .int .i64 code] 31)).heap[w.heap.size]? = some (.cells #[.slice aS s.slots.length cS, .slice aH s.heads.length cH, .int .i64 at1, .int .i64 code] 31)) := by
    show _ = _
    have := blk_alloc (heap_newG w (.cells #[.slice aS s.slots.length cS, .slice aH s.heads.length cH, .int .i64 at1, .int .i64 code] 31)) (.cells #[.slice aS' s.slots.length cS', .slice aH' s.heads.length cH', .int .i64 at1, .int .i64 code] 31)
    simpa using this
  have hGB0 : Hid (((w.alloc (.cells #[.slice aS s.slots.length cS, .slice aH s.heads.length cH, .int .i64 at1, .int .i64 code] 31)).alloc (.cells #[.slice aS' s.slots.length cS', .slice aH' s.heads.length cH', .int .i64 at1, .int .i64 code] 31)).heap[w.heap.size + 1]? = some (.cells #[.slice aS' s.slots.length cS', .slice aH' s.heads.length cH', .int .i64 at1, .int .i64 code] 31)) := by
    show _ = _
    have := heap_newG (w.alloc (.cells #[.slice aS s.slots.length cS, .slice aH s.heads.length cH, .int .i64 at1, .int .i64 code] 31)) (.cells #[.slice aS' s.slots.length cS', .slice aH' s.heads.length cH', .int .i64 at1, .int .i64 code] 31)
    simpa using this
  have hL0 := hidS (((Below.refl w.heap.size w).alloc (Nat.le_refl _) (.cells #[.slice aS s.slots.length cS, .slice aH s.heads.length cH, .int .i64 at1, .int .i64 code] 31)).alloc (by simp) (.cells #[.slice aS' s.slots.length cS', .slice aH' s.heads.length cH', .int .i64 at1, .int .i64 code] 31))
  go_enter Try.func12, Try.ntmps12
  go_wp2_with fail
  refine (eqSlab_any aS aH aS' aH' cS cH cS' cH' s _ (HR.out.later hL0.out) (HR'.out.later hL0.out) h1 h2).mono ?_
  rintro _ w1 ⟨rfl, hb1⟩
  have hGA1 := hidS (blk_later hGA0.out hb1)
  have hGB1 := hidS (blk_later hGB0.out hb1)
  have hL1 := hidS (hL0.out.trans (hb1.mono hL0.out.size))
  clear hb1 hL0 hGA0 hGB0
  have cA0 := blk_cell hGA1.out 0
  have cA1 := blk_cell hGA1.out 1
  have cA2 := blk_cell hGA1.out 2
  have cA3 := blk_cell hGA1.out 3
  simp at cA0 cA1 cA2 cA3
  have cB0 := blk_cell hGB1.out 0
  have cB1 := blk_cell hGB1.out 1
  have cB2 := blk_cell hGB1.out 2
  have cB3 := blk_cell hGB1.out 3
  simp at cB0 cB1 cB2 cB3
  go_wp2_with fail
  go_ret
  exact ⟨rfl, hL1.out⟩
set_option maxHeartbeats 1000000 in
theorem heldSlabOut_any (aS aH : Option Addr) (cS cH nS nH : Nat) (at1 code k0 : Int) (w : World) (hS : RowZ aS (marks k0 (4 * nS)) w) (hH : RowZ aH (marks (k0 + 4 * nS) nH) w) (h1 : nS ≤ 1048576) (h2 : nH ≤ 1048576) (hk0 : 0 ≤ k0) (hk1 : k0 ≤ 1073741824) :
    Calls Try.prog 16 #[.agg #[.slice aS nS cS, .slice aH nH cH, .int .i64 at1, .int .i64 code], .int .i64 k0] w fun e w' => e = .returned (.int .i64 (k0 + 4 * nS + nH)) ∧ Below w.heap.size w w' := by
  have HS := hidS hS
  have HH := hidS hH
  clear hS hH
  have hm : ¬ (k0 + 4 * (nS : Int) + (nH : Int)) < 0 := by omega
  have hGA0 : Hid ((w.alloc (.cells #[.slice aS nS cS, .slice aH nH cH, .int .i64 at1, .int .i64 code] 31)).heap[w.heap.size]? = some (.cells #[.slice aS nS cS, .slice aH nH cH, .int .i64 at1, .int .i64 code] 31)) := by
    show _ = _
    have := heap_newG w (.cells #[.slice aS nS cS, .slice aH nH cH, .int .i64 at1, .int .i64 code] 31)
    simpa using this
  have hL0 := hidS ((Below.refl w.heap.size w).alloc (Nat.le_refl _) (.cells #[.slice aS nS cS, .slice aH nH cH, .int .i64 at1, .int .i64 code] 31))
  go_enter Try.func16, Try.ntmps16
  go_wp2_with fail
  refine (heldSlab_any aS aH cS cH nS nH k0 _ (HS.out.later hL0.out) (HH.out.later hL0.out) h1 h2 hk0 hk1).mono ?_
  rintro _ w1 ⟨rfl, hb1⟩
  have hGA1 := hidS (blk_later hGA0.out hb1)
  have hL1 := hidS (hL0.out.trans (hb1.mono hL0.out.size))
  clear hb1 hL0 hGA0
  go_wp2_with fail
  go_ret
  exact ⟨rfl, hL1.out⟩
set_option maxHeartbeats 1000000 in
theorem markSlabOut_any (lo hi : Nat) (aS aH : Option Addr) (cS cH : Nat) (s : Slb) (at1 code k0 : Int) (w : World) (hO : SlabO lo hi aS aH s w) (hhi : hi ≤ w.heap.size) (h1 : s.slots.length ≤ 1048576) (h2 : s.heads.length ≤ 1048576) (hk0 : 0 ≤ k0) (hk1 : k0 ≤ 1073741824) :
    Calls Try.prog 15 #[.agg #[.slice aS s.slots.length cS, .slice aH s.heads.length cH, .int .i64 at1, .int .i64 code], .int .i64 k0] w fun e w' => e = .returned (.int .i64 (k0 + 4 * s.slots.length + s.heads.length)) ∧ OwnR lo hi aS (marks k0 (4 * s.slots.length)) w' ∧ OwnR lo hi aH (marks (k0 + 4 * s.slots.length) s.heads.length) w' ∧ Mid lo hi w w' := by
  have HO := hidS hO
  clear hO
  have hb0 := hidS ((Below.refl w.heap.size w).alloc (Nat.le_refl _) (.cells #[.slice aS s.slots.length cS, .slice aH s.heads.length cH, .int .i64 at1, .int .i64 code] 31))
  go_enter Try.func15, Try.ntmps15
  go_wp2_with fail
  generalize w.alloc (.cells #[.slice aS s.slots.length cS, .slice aH s.heads.length cH, .int .i64 at1, .int .i64 code] 31) = w0 at hb0 ⊢
  refine (markSlab_any lo hi aS aH cS cH s k0 w0 (HO.out.later hb0.out) (Nat.le_trans hhi hb0.out.size) h1 h2 hk0 hk1).mono ?_
  rintro _ w1 ⟨rfl, q1, q2, q3⟩
  have Q1 := hidS q1
  have Q2 := hidS q2
  have Q3 : Hid (Mid lo hi w w1) := hidS ((Below.mid hb0.out).trans q3)
  clear q1 q2 q3
  go_wp2_with fail
  go_ret
  exact ⟨rfl, Q1.out, Q2.out, Q3.out⟩
end Go.Proofs.Ytcakaoglpfokkaj
