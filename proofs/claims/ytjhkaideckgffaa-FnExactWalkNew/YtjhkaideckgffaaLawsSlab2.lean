/- Proved here: more of the laws' own helpers over slabs and answers of slabs (conditions: their rows can be read, or written; at most 2^20 numbers). -/
import Derived.Test.YtjhkaideckgffaaLawsSlab
namespace Go.Proofs.Ytjhkaideckgffaa
open Go.ChangeShapes Go.WideShapes Go.ChangeAt Go.RowKit
set_option linter.unusedVariables false
set_option linter.unusedSimpArgs false
set_option maxRecDepth 100000

set_option maxHeartbeats 1000000 in
theorem szSlab_big (aS aH : Option Addr) (cS cH : Nat) (s : Slb) (w : World) (h1 : s.slots.length ≤ 9223372036854775807) (h2 : s.heads.length ≤ 9223372036854775807) (hb : 1048576 < s.slots.length + s.heads.length) :
    Calls Try.prog 7 #[.agg #[.slice aS s.slots.length cS, .slice aH s.heads.length cH], .int .i64 1048576] w fun e w' => (∃ r : Int, e = .returned (.int .i64 r) ∧ r < 0) ∧ Below w.heap.size w w' := by
  by_cases hS : (1048576 : Int) < (s.slots.length : Int)
  · have HZ := hidS (fun W => szSlots_any aS s.slots.length cS 1048576 W h1 (by omega) (by omega))
    rw [if_pos hS] at HZ
    have hGA0 : Hid ((w.alloc (.cells #[.slice aS s.slots.length cS, .slice aH s.heads.length cH] 25)).heap[w.heap.size]? = some (.cells #[.slice aS s.slots.length cS, .slice aH s.heads.length cH] 25)) := by
      show _ = _
      have := heap_newG w (.cells #[.slice aS s.slots.length cS, .slice aH s.heads.length cH] 25)
      simpa using this
    have hL0 := hidS ((Below.refl w.heap.size w).alloc (Nat.le_refl _) (.cells #[.slice aS s.slots.length cS, .slice aH s.heads.length cH] 25))
    go_enter Try.func7, Try.ntmps7
    go_wp2_with fail
    refine (HZ.out _).mono ?_
    rintro _ v ⟨rfl, hv⟩
    rw [hv]
    clear hv v
    go_wp2_with fail
    go_ret
    exact ⟨⟨_, rfl, by decide⟩, hL0.out⟩
  · have HZ := hidS (fun W => szSlots_any aS s.slots.length cS 1048576 W h1 (by omega) (by omega))
    rw [if_neg hS] at HZ
    have HY := hidS (fun W => szInts_any aH s.heads.length cH (1048576 - (s.slots.length : Int)) W h2 (by omega) (by omega))
    rw [if_pos (by omega)] at HY
    have hn : ¬ (1048576 - (s.slots.length : Int)) < 0 := by omega
    have hGA0 : Hid ((w.alloc (.cells #[.slice aS s.slots.length cS, .slice aH s.heads.length cH] 25)).heap[w.heap.size]? = some (.cells #[.slice aS s.slots.length cS, .slice aH s.heads.length cH] 25)) := by
      show _ = _
      have := heap_newG w (.cells #[.slice aS s.slots.length cS, .slice aH s.heads.length cH] 25)
      simpa using this
    have hL0 := hidS ((Below.refl w.heap.size w).alloc (Nat.le_refl _) (.cells #[.slice aS s.slots.length cS, .slice aH s.heads.length cH] 25))
    go_enter Try.func7, Try.ntmps7
    go_wp2_with fail
    refine (HZ.out _).mono ?_
    rintro _ v ⟨rfl, hv⟩
    rw [hv]
    clear hv v
    go_wp2_with fail
    refine (HY.out _).mono ?_
    rintro _ v ⟨rfl, hv⟩
    rw [hv]
    clear hv v
    go_wp2_with fail
    go_ret
    exact ⟨⟨_, rfl, by decide⟩, hL0.out⟩
set_option maxHeartbeats 1000000 in
theorem szSlab_ok (aS aH : Option Addr) (cS cH : Nat) (s : Slb) (w : World) (h1 : s.slots.length ≤ 9223372036854775807) (h2 : s.heads.length ≤ 9223372036854775807) (hb : ¬ 1048576 < s.slots.length + s.heads.length) :
    Calls Try.prog 7 #[.agg #[.slice aS s.slots.length cS, .slice aH s.heads.length cH], .int .i64 1048576] w fun e w' => (∃ r : Int, e = .returned (.int .i64 r) ∧ 0 ≤ r ∧ r ≤ 1048576) ∧ Below w.heap.size w w' := by
  have HZ := hidS (fun W => szSlots_any aS s.slots.length cS 1048576 W h1 (by omega) (by omega))
  rw [if_neg (by omega)] at HZ
  have HY := hidS (fun W => szInts_any aH s.heads.length cH (1048576 - (s.slots.length : Int)) W h2 (by omega) (by omega))
  rw [if_neg (by omega)] at HY
  have hn : ¬ (1048576 - (s.slots.length : Int)) < 0 := by omega
  have hm : ¬ (1048576 - (s.slots.length : Int) - (s.heads.length : Int)) < 0 := by omega
  have hGA0 : Hid ((w.alloc (.cells #[.slice aS s.slots.length cS, .slice aH s.heads.length cH] 25)).heap[w.heap.size]? = some (.cells #[.slice aS s.slots.length cS, .slice aH s.heads.length cH] 25)) := by
    show _ = _
    have := heap_newG w (.cells #[.slice aS s.slots.length cS, .slice aH s.heads.length cH] 25)
    simpa using this
  have hL0 := hidS ((Below.refl w.heap.size w).alloc (Nat.le_refl _) (.cells #[.slice aS s.slots.length cS, .slice aH s.heads.length cH] 25))
  go_enter Try.func7, Try.ntmps7
  go_wp2_with fail
  refine (HZ.out _).mono ?_
  rintro _ v ⟨rfl, hv⟩
  rw [hv]
  clear hv v
  go_wp2_with fail
  refine (HY.out _).mono ?_
  rintro _ v ⟨rfl, hv⟩
  rw [hv]
  clear hv v
  go_wp2_with fail
  go_ret
  exact ⟨⟨_, rfl, by omega, by omega⟩, hL0.out⟩
set_option maxHeartbeats 1000000 in
theorem eqSlab_any (aS aH aS' aH' : Option Addr) (cS cH cS' cH' : Nat) (s : Slb) (w : World) (hR : SlabZ aS aH s w) (hR' : SlabZ aS' aH' s w) (h1 : s.slots.length ≤ 1048576) (h2 : s.heads.length ≤ 1048576) :
    Calls Try.prog 12 #[.agg #[.slice aS s.slots.length cS, .slice aH s.heads.length cH], .agg #[.slice aS' s.slots.length cS', .slice aH' s.heads.length cH']] w fun e w' => e = .returned (.bool true) ∧ Below w.heap.size w w' := by
  have HR := hidS hR
  have HR' := hidS hR'
  clear hR hR'
  have hGA0 : Hid (((w.alloc (.cells #[.slice aS s.slots.length cS, .slice aH s.heads.length cH] 32)).alloc (.cells #[.slice aS' s.slots.length cS', .slice aH' s.heads.length cH'] 32)).heap[w.heap.size]? = some (.cells #[.slice aS s.slots.length cS, .slice aH s.heads.length cH] 32)) := by
    show _ = _
    have := blk_alloc (heap_newG w (.cells #[.slice aS s.slots.length cS, .slice aH s.heads.length cH] 32)) (.cells #[.slice aS' s.slots.length cS', .slice aH' s.heads.length cH'] 32)
    simpa using this
  have hGB0 : Hid (((w.alloc (.cells #[.slice aS s.slots.length cS, .slice aH s.heads.length cH] 32)).alloc (.cells #[.slice aS' s.slots.length cS', .slice aH' s.heads.length cH'] 32)).heap[w.heap.size + 1]? = some (.cells #[.slice aS' s.slots.length cS', .slice aH' s.heads.length cH'] 32)) := by
    show _ = _
    have := heap_newG (w.alloc (.cells #[.slice aS s.slots.length cS, .slice aH s.heads.length cH] 32)) (.cells #[.slice aS' s.slots.length cS', .slice aH' s.heads.length cH'] 32)
    simpa using this
  have hL0 := hidS (((Below.refl w.heap.size w).alloc (Nat.le_refl _) (.cells #[.slice aS s.slots.length cS, .slice aH s.heads.length cH] 32)).alloc (by simp) (.cells #[.slice aS' s.slots.length cS', .slice aH' s.heads.length cH'] 32))
  go_enter Try.func12, Try.ntmps12
  go_wp2_with fail
  refine (eqSlots_any aS aS' cS cS' s.slots _ (HR.out.slots.later hL0.out) (HR'.out.slots.later hL0.out) h1).mono ?_
  rintro _ w1 ⟨rfl, hb1⟩
  have hGA1 := hidS (blk_later hGA0.out hb1)
  have hGB1 := hidS (blk_later hGB0.out hb1)
  have hL1 := hidS (hL0.out.trans (hb1.mono hL0.out.size))
  clear hb1 hL0 hGA0 hGB0
  have cA0 := blk_cell hGA1.out 0
  have cA1 := blk_cell hGA1.out 1
  simp at cA0 cA1
  have cB0 := blk_cell hGB1.out 0
  have cB1 := blk_cell hGB1.out 1
  simp at cB0 cB1
  go_wp2_with fail
  refine (eqInts_any aH aH' cH cH' s.heads _ (HR.out.heads.later hL1.out) (HR'.out.heads.later hL1.out) h2).mono ?_
  rintro _ w2 ⟨rfl, hb2⟩
  clear cA0 cA1 cB0 cB1
  have hGA2 := hidS (blk_later hGA1.out hb2)
  have hGB2 := hidS (blk_later hGB1.out hb2)
  have hL2 := hidS (hL1.out.trans (hb2.mono hL1.out.size))
  clear hb2 hL1 hGA1 hGB1
  go_wp2_with fail
  go_ret
  exact ⟨rfl, hL2.out⟩
set_option maxHeartbeats 1000000 in
theorem heldSlab_any (aS aH : Option Addr) (cS cH nS nH : Nat) (k0 : Int) (w : World) (hS : RowZ aS (marks k0 (4 * nS)) w) (hH : RowZ aH (marks (k0 + 4 * nS) nH) w) (h1 : nS ≤ 1048576) (h2 : nH ≤ 1048576) (hk0 : 0 ≤ k0) (hk1 : k0 ≤ 1073741824) :
    Calls Try.prog 45 #[.agg #[.slice aS nS cS, .slice aH nH cH], .int .i64 k0] w fun e w' => e = .returned (.int .i64 (k0 + 4 * nS + nH)) ∧ Below w.heap.size w w' := by
  have HS := hidS hS
  have HH := hidS hH
  clear hS hH
  have hn : ¬ (k0 + 4 * (nS : Int)) < 0 := by omega
  have hm : ¬ (k0 + 4 * (nS : Int) + (nH : Int)) < 0 := by omega
  have hGA0 : Hid ((w.alloc (.cells #[.slice aS nS cS, .slice aH nH cH] 32)).heap[w.heap.size]? = some (.cells #[.slice aS nS cS, .slice aH nH cH] 32)) := by
    show _ = _
    have := heap_newG w (.cells #[.slice aS nS cS, .slice aH nH cH] 32)
    simpa using this
  have hL0 := hidS ((Below.refl w.heap.size w).alloc (Nat.le_refl _) (.cells #[.slice aS nS cS, .slice aH nH cH] 32))
  go_enter Try.func45, Try.ntmps45
  go_wp2_with fail
  refine (heldSlots_any aS cS nS k0 _ (HS.out.later hL0.out) h1 hk0 (by omega)).mono ?_
  rintro _ v ⟨rfl, hv⟩
  rw [hv]
  clear hv v
  go_wp2_with fail
  refine (heldInts_any aH cH nH (k0 + 4 * nS) _ (HH.out.later hL0.out) h2 (by omega) (by omega)).mono ?_
  rintro _ v ⟨rfl, hv⟩
  rw [hv]
  clear hv v
  go_wp2_with fail
  go_ret
  exact ⟨rfl, hL0.out⟩
end Go.Proofs.Ytjhkaideckgffaa
