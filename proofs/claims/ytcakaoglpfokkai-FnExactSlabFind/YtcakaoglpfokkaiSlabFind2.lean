/- Proved here: spec.SlabFind answers the linked slot of a key of a right slab; all old memory stays (conditions: the slab's rows can be read; at most 2^20 numbers). -/
import Derived.Test.YtcakaoglpfokkaiSlabLeads
import Derived.Test.YtcakaoglpfokkaiSlabFindS
namespace Go.Proofs.Ytcakaoglpfokkai
open Go.ChangeShapes Go.WideShapes Go.ChangeAt Go.RowKit
set_option linter.unusedVariables false
set_option linter.unusedSimpArgs false
set_option maxRecDepth 100000

/-- what SlabFind answers -/
def findAns (s : Slb) (key : Int) : Int := if (rightSl s && keyB key) = true then findSl s key else -1
set_option maxHeartbeats 1000000 in
theorem specSlabFind_any (aS aH : Option Addr) (cS cH : Nat) (s : Slb) (key : Int) (w : World) (hR : SlabZ aS aH s w) (h1 : s.slots.length ≤ 1048576) (h2 : s.heads.length ≤ 1048576) :
    Calls Try.prog 22 #[.agg #[.slice aS s.slots.length cS, .slice aH s.heads.length cH], .int .i64 key] w fun e w' => e = .returned (.int .i64 (findAns s key)) ∧ Below w.heap.size w w' := by
  have HS := hidS (fun W (h : Below w.heap.size w W) => specSlabRight_any aS aH cS cH s W (hR.later h) h1 h2)
  have HK := hidS (fun W => l06Key_any key W)
  cases hr : rightSl s
  · have EZ : Hid (findAns s key = -1) := by show _ = _; unfold findAns; rw [hr]; rfl
    rw [hr] at HS
    clear hr hR
    have hGA0 : Hid ((w.alloc (.cells #[.slice aS s.slots.length cS, .slice aH s.heads.length cH] 33)).heap[w.heap.size]? = some (.cells #[.slice aS s.slots.length cS, .slice aH s.heads.length cH] 33)) := by
      show _ = _
      have := heap_newG w (.cells #[.slice aS s.slots.length cS, .slice aH s.heads.length cH] 33)
      simpa using this
    have hL0 := hidS ((Below.refl w.heap.size w).alloc (Nat.le_refl _) (.cells #[.slice aS s.slots.length cS, .slice aH s.heads.length cH] 33))
    go_enter Try.func22, Try.ntmps22
    go_wp2_with fail
    refine (HS.out _ hL0.out).mono ?_
    rintro _ w1 ⟨rfl, hb1⟩
    have hGA1 := hidS (blk_later hGA0.out hb1)
    have hL1 := hidS (hL0.out.trans (hb1.mono hL0.out.size))
    clear hb1 hL0 hGA0
    have cA0 := blk_cell hGA1.out 0
    have cA1 := blk_cell hGA1.out 1
    simp at cA0 cA1
    go_wp2_with fail
    go_ret
    exact ⟨by rw [EZ.out]; rfl, hL1.out⟩
  rw [hr] at HS
  cases hk : keyB key
  · have EZ : Hid (findAns s key = -1) := by show _ = _; unfold findAns; rw [hr, hk]; rfl
    rw [hk] at HK
    clear hr hk hR
    have hGA0 : Hid ((w.alloc (.cells #[.slice aS s.slots.length cS, .slice aH s.heads.length cH] 33)).heap[w.heap.size]? = some (.cells #[.slice aS s.slots.length cS, .slice aH s.heads.length cH] 33)) := by
      show _ = _
      have := heap_newG w (.cells #[.slice aS s.slots.length cS, .slice aH s.heads.length cH] 33)
      simpa using this
    have hL0 := hidS ((Below.refl w.heap.size w).alloc (Nat.le_refl _) (.cells #[.slice aS s.slots.length cS, .slice aH s.heads.length cH] 33))
    go_enter Try.func22, Try.ntmps22
    go_wp2_with fail
    refine (HS.out _ hL0.out).mono ?_
    rintro _ w1 ⟨rfl, hb1⟩
    have hGA1 := hidS (blk_later hGA0.out hb1)
    have hL1 := hidS (hL0.out.trans (hb1.mono hL0.out.size))
    clear hb1 hL0 hGA0
    have cA0 := blk_cell hGA1.out 0
    have cA1 := blk_cell hGA1.out 1
    simp at cA0 cA1
    go_wp2_with fail
    refine (HK.out _).mono ?_
    rintro _ v ⟨rfl, hv⟩
    rw [hv]
    clear hv v
    go_wp2_with fail
    go_ret
    exact ⟨by rw [EZ.out]; rfl, hL1.out⟩
  · have EZ : Hid (findAns s key = findSl s key) := by show _ = _; unfold findAns; rw [hr, hk]; rfl
    rw [hk] at HK
    obtain ⟨hLe, n1, n2, n3, n4⟩ := right_leads hr
    have hk0 : 0 ≤ key := by unfold keyB at hk; simp at hk; exact hk.1
    have HF := hidS (fun W (h : Below w.heap.size w W) => l06Find_any aS aH cS cH s key W (hR.later h) hLe n2 n4 n3 hk0)
    generalize findSl s key = r at EZ HF
    clear hr hk hR hLe n1 n2 n3 n4 hk0
    have hGA0 : Hid ((w.alloc (.cells #[.slice aS s.slots.length cS, .slice aH s.heads.length cH] 33)).heap[w.heap.size]? = some (.cells #[.slice aS s.slots.length cS, .slice aH s.heads.length cH] 33)) := by
      show _ = _
      have := heap_newG w (.cells #[.slice aS s.slots.length cS, .slice aH s.heads.length cH] 33)
      simpa using this
    have hL0 := hidS ((Below.refl w.heap.size w).alloc (Nat.le_refl _) (.cells #[.slice aS s.slots.length cS, .slice aH s.heads.length cH] 33))
    go_enter Try.func22, Try.ntmps22
    go_wp2_with fail
    refine (HS.out _ hL0.out).mono ?_
    rintro _ w1 ⟨rfl, hb1⟩
    have hGA1 := hidS (blk_later hGA0.out hb1)
    have hL1 := hidS (hL0.out.trans (hb1.mono hL0.out.size))
    clear hb1 hL0 hGA0
    have cA0 := blk_cell hGA1.out 0
    have cA1 := blk_cell hGA1.out 1
    simp at cA0 cA1
    go_wp2_with fail
    refine (HK.out _).mono ?_
    rintro _ v ⟨rfl, hv⟩
    rw [hv]
    clear hv v
    go_wp2_with fail
    refine (HF.out _ hL1.out).mono ?_
    rintro _ w2 ⟨rfl, hb2⟩
    clear cA0 cA1
    have hGA2 := hidS (blk_later hGA1.out hb2)
    have hL2 := hidS (hL1.out.trans (hb2.mono hL1.out.size))
    clear hb2 hL1 hGA1
    go_wp2_with fail
    go_ret
    exact ⟨by rw [EZ.out]; rfl, hL2.out⟩
end Go.Proofs.Ytcakaoglpfokkai
