/- Proved here: spec.SlabFind answers the linked slot of a key of a right slab; all old memory stays (conditions: the slab's rows can be read; at most 2^20 numbers). · Proved here: impl.SlabFind answers the linked slot of a key of a right slab; all old memory stays (conditions: the slab's rows can be read; at most 2^20 numbers; numbers of int64). · Proved here: a law on regions of guarded operations that draw their order (no program of its own): what is said of each value may hang on memory. -/
import Derived.Test.YtcopfejonbbmnaaAll15
import Derived.Test.YtcopfejonbbmnaaSlabFindS
import Derived.Test.YtcopfejonbbmnaaAll17
import Derived.Test.YtcopfejonbbmnaaGrow
import Derived.Test.YtcopfejonbbmnaaKinds
section
namespace Go.Proofs.Ytcopfejonbbmnaa
open Go.ChangeShapes Go.WideShapes Go.ChangeAt Go.RowKit
set_option linter.unusedVariables false
set_option linter.unusedSimpArgs false
set_option maxRecDepth 100000

/-- what SlabFind answers -/
def findAns (s : Slb) (key : Int) : Int := if (rightSl s && keyB key) = true then findSl s key else -1
set_option maxHeartbeats 1000000 in
theorem specSlabFind_any (aS aH : Option Addr) (cS cH : Nat) (s : Slb) (key : Int) (w : World) (hR : SlabZ aS aH s w) (h1 : s.slots.length ≤ 1048576) (h2 : s.heads.length ≤ 1048576) :
    Calls Try.prog 24 #[.agg #[.slice aS s.slots.length cS, .slice aH s.heads.length cH], .int .i64 key] w fun e w' => e = .returned (.int .i64 (findAns s key)) ∧ Below w.heap.size w w' := by
  have HS := hidS (fun W (h : Below w.heap.size w W) => specSlabRight_any aS aH cS cH s W (hR.later h) h1 h2)
  have HK := hidS (fun W => l06Key_any key W)
  cases hr : rightSl s
  · have EZ : Hid (findAns s key = -1) := by show _ = _; unfold findAns; rw [hr]; rfl
    rw [hr] at HS
    clear hr hR
    have hGA0 : Hid ((w.alloc (.cells #[.slice aS s.slots.length cS, .slice aH s.heads.length cH] 26)).heap[w.heap.size]? = some (.cells #[.slice aS s.slots.length cS, .slice aH s.heads.length cH] 26)) := by
      show _ = _
      have := heap_newG w (.cells #[.slice aS s.slots.length cS, .slice aH s.heads.length cH] 26)
      simpa using this
    have hL0 := hidS ((Below.refl w.heap.size w).alloc (Nat.le_refl _) (.cells #[.slice aS s.slots.length cS, .slice aH s.heads.length cH] 26))
    go_enter Try.func24, Try.ntmps24
    go_wp2_with fail
    refine (HS.out _ hL0.out).mono ?_
    rintro _ w1 ⟨rfl, hb1⟩
    have hGA1 := hidS (blk_later hGA0.out hb1)
    have hL1 := hidS (hL0.out.trans (hb1.mono hL0.out.size))
    clear hb1 hL0 hGA0
    have cA0 := blk_cell hGA1.out 0
    have cA1 := blk_cell hGA1.out 1
    simp at cA0 cA1
    go_wp2_with fail
    go_ret
    exact ⟨by rw [EZ.out]; rfl, hL1.out⟩
  rw [hr] at HS
  cases hk : keyB key
  · have EZ : Hid (findAns s key = -1) := by show _ = _; unfold findAns; rw [hr, hk]; rfl
    rw [hk] at HK
    clear hr hk hR
    have hGA0 : Hid ((w.alloc (.cells #[.slice aS s.slots.length cS, .slice aH s.heads.length cH] 26)).heap[w.heap.size]? = some (.cells #[.slice aS s.slots.length cS, .slice aH s.heads.length cH] 26)) := by
      show _ = _
      have := heap_newG w (.cells #[.slice aS s.slots.length cS, .slice aH s.heads.length cH] 26)
      simpa using this
    have hL0 := hidS ((Below.refl w.heap.size w).alloc (Nat.le_refl _) (.cells #[.slice aS s.slots.length cS, .slice aH s.heads.length cH] 26))
    go_enter Try.func24, Try.ntmps24
    go_wp2_with fail
    refine (HS.out _ hL0.out).mono ?_
    rintro _ w1 ⟨rfl, hb1⟩
    have hGA1 := hidS (blk_later hGA0.out hb1)
    have hL1 := hidS (hL0.out.trans (hb1.mono hL0.out.size))
    clear hb1 hL0 hGA0
    have cA0 := blk_cell hGA1.out 0
    have cA1 := blk_cell hGA1.out 1
    simp at cA0 cA1
    go_wp2_with fail
    refine (HK.out _).mono ?_
    rintro _ v ⟨rfl, hv⟩
    rw [hv]
    clear hv v
    go_wp2_with fail
    go_ret
    exact ⟨by rw [EZ.out]; rfl, hL1.out⟩
  · have EZ : Hid (findAns s key = findSl s key) := by show _ = _; unfold findAns; rw [hr, hk]; rfl
    rw [hk] at HK
    obtain ⟨hLe, n1, n2, n3, n4⟩ := right_leads hr
    have hk0 : 0 ≤ key := by unfold keyB at hk; simp at hk; exact hk.1
    have HF := hidS (fun W (h : Below w.heap.size w W) => l06Find_any aS aH cS cH s key W (hR.later h) hLe n2 n4 n3 hk0)
    generalize findSl s key = r at EZ HF
    clear hr hk hR hLe n1 n2 n3 n4 hk0
    have hGA0 : Hid ((w.alloc (.cells #[.slice aS s.slots.length cS, .slice aH s.heads.length cH] 26)).heap[w.heap.size]? = some (.cells #[.slice aS s.slots.length cS, .slice aH s.heads.length cH] 26)) := by
      show _ = _
      have := heap_newG w (.cells #[.slice aS s.slots.length cS, .slice aH s.heads.length cH] 26)
      simpa using this
    have hL0 := hidS ((Below.refl w.heap.size w).alloc (Nat.le_refl _) (.cells #[.slice aS s.slots.length cS, .slice aH s.heads.length cH] 26))
    go_enter Try.func24, Try.ntmps24
    go_wp2_with fail
    refine (HS.out _ hL0.out).mono ?_
    rintro _ w1 ⟨rfl, hb1⟩
    have hGA1 := hidS (blk_later hGA0.out hb1)
    have hL1 := hidS (hL0.out.trans (hb1.mono hL0.out.size))
    clear hb1 hL0 hGA0
    have cA0 := blk_cell hGA1.out 0
    have cA1 := blk_cell hGA1.out 1
    simp at cA0 cA1
    go_wp2_with fail
    refine (HK.out _).mono ?_
    rintro _ v ⟨rfl, hv⟩
    rw [hv]
    clear hv v
    go_wp2_with fail
    refine (HF.out _ hL1.out).mono ?_
    rintro _ w2 ⟨rfl, hb2⟩
    clear cA0 cA1
    have hGA2 := hidS (blk_later hGA1.out hb2)
    have hL2 := hidS (hL1.out.trans (hb2.mono hL1.out.size))
    clear hb2 hL1 hGA1
    go_wp2_with fail
    go_ret
    exact ⟨by rw [EZ.out]; rfl, hL2.out⟩
end Go.Proofs.Ytcopfejonbbmnaa
end

section
namespace Go.Proofs.Ytcopfejonbbmnaa
open Go.ChangeShapes Go.WideShapes Go.ChangeAt Go.RowKit
set_option linter.unusedVariables false
set_option linter.unusedSimpArgs false
set_option maxRecDepth 100000

set_option maxHeartbeats 2000000 in
theorem implSlabFind_any (aS aH : Option Addr) (cS cH : Nat) (s : Slb) (key : Int) (w : World) (hR : SlabZ aS aH s w) (hF : SlabFit s) (h1 : s.slots.length ≤ 1048576) (h2 : s.heads.length ≤ 1048576) :
    Calls Try.prog 23 #[.agg #[.slice aS s.slots.length cS, .slice aH s.heads.length cH], .int .i64 key] w fun e w' => e = .returned (.int .i64 (findAns s key)) ∧ Below w.heap.size w w' := by
  have HS := hidS (fun W (h : Below w.heap.size w W) => implSlabRight_any aS aH cS cH s W (hR.later h) hF h1 h2)
  have HK := hidS (fun W => implIsKey_any key W)
  cases hr : rightSl s
  · have EZ : Hid (findAns s key = -1) := by show _ = _; unfold findAns; rw [hr]; rfl
    rw [hr] at HS
    clear hr hR
    have hGA0 : Hid ((w.alloc (.cells #[.slice aS s.slots.length cS, .slice aH s.heads.length cH] 26)).heap[w.heap.size]? = some (.cells #[.slice aS s.slots.length cS, .slice aH s.heads.length cH] 26)) := by
      show _ = _
      have := heap_newG w (.cells #[.slice aS s.slots.length cS, .slice aH s.heads.length cH] 26)
      simpa using this
    have hL0 := hidS ((Below.refl w.heap.size w).alloc (Nat.le_refl _) (.cells #[.slice aS s.slots.length cS, .slice aH s.heads.length cH] 26))
    go_enter Try.func23, Try.ntmps23
    go_wp2_with fail
    refine (HS.out _ hL0.out).mono ?_
    rintro _ w1 ⟨rfl, hb1⟩
    have hGA1 := hidS (blk_later hGA0.out hb1)
    have hL1 := hidS (hL0.out.trans (hb1.mono hL0.out.size))
    clear hb1 hL0 hGA0
    have cA0 := blk_cell hGA1.out 0
    have cA1 := blk_cell hGA1.out 1
    simp at cA0 cA1
    go_wp2_with fail
    go_ret
    exact ⟨by rw [EZ.out]; rfl, hL1.out⟩
  rw [hr] at HS
  cases hk : keyB key
  · have EZ : Hid (findAns s key = -1) := by show _ = _; unfold findAns; rw [hr, hk]; rfl
    rw [hk] at HK
    clear hr hk hR
    have hGA0 : Hid ((w.alloc (.cells #[.slice aS s.slots.length cS, .slice aH s.heads.length cH] 26)).heap[w.heap.size]? = some (.cells #[.slice aS s.slots.length cS, .slice aH s.heads.length cH] 26)) := by
      show _ = _
      have := heap_newG w (.cells #[.slice aS s.slots.length cS, .slice aH s.heads.length cH] 26)
      simpa using this
    have hL0 := hidS ((Below.refl w.heap.size w).alloc (Nat.le_refl _) (.cells #[.slice aS s.slots.length cS, .slice aH s.heads.length cH] 26))
    go_enter Try.func23, Try.ntmps23
    go_wp2_with fail
    refine (HS.out _ hL0.out).mono ?_
    rintro _ w1 ⟨rfl, hb1⟩
    have hGA1 := hidS (blk_later hGA0.out hb1)
    have hL1 := hidS (hL0.out.trans (hb1.mono hL0.out.size))
    clear hb1 hL0 hGA0
    have cA0 := blk_cell hGA1.out 0
    have cA1 := blk_cell hGA1.out 1
    simp at cA0 cA1
    go_wp2_with fail
    refine (HK.out _).mono ?_
    rintro _ v ⟨rfl, hv⟩
    rw [hv]
    clear hv v
    go_wp2_with fail
    go_ret
    exact ⟨by rw [EZ.out]; rfl, hL1.out⟩
  · have EZ : Hid (findAns s key = findSl s key) := by show _ = _; unfold findAns; rw [hr, hk]; rfl
    rw [hk] at HK
    obtain ⟨hLe, n1, n2, n3, n4⟩ := right_leads hr
    obtain ⟨k0, k1⟩ : 0 ≤ key ∧ key ≤ 999 := by unfold keyB at hk; simp at hk; exact hk
    obtain ⟨bS, oS, rfl, _⟩ := hR.slots.slot (i := 0) (by omega)
    obtain ⟨bH, oH, rfl, _⟩ := hR.heads 0 (by omega)
    have HL := hidS (fun W (h : Below w.heap.size w W) => linkTo_any bS oS bH oH cS cH s key W (hR.later h) hr k0 k1)
    obtain ⟨hok, hfi⟩ := link_find (key := key) hr k0
    have HCL := hidS (fun W (h : Below w.heap.size w W) => (link_cell (hR.later h) (chN_lt (s := s) k0 n3).1 hok).2)
    have HV : Hid (findSl s key = max (linkN s key) (-1)) := by
      show _ = _
      rcases hfi with ⟨q1, q2⟩ | ⟨q1, q2, q3⟩
      · rw [q1, q2]; omega
      · rw [q3]; omega
    have HCL2 : Hid (∀ W, Below w.heap.size w W → W.cell? ⟨(adrL bS oS bH oH (chN s key) (linkP s key)).1, (adrL bS oS bH oH (chN s key) (linkP s key)).2, none⟩ = some (.int .i64 (linkN s key))) := HCL
    generalize (adrL bS oS bH oH (chN s key) (linkP s key)).1 = B at HL HCL2
    generalize (adrL bS oS bH oH (chN s key) (linkP s key)).2 = O at HL HCL2
    generalize linkN s key = v at HV HCL2
    rw [HV.out] at EZ
    clear hr hk hR hLe n1 n2 n3 n4 k0 k1 hok hfi HCL HV
    have hGA0 : Hid ((w.alloc (.cells #[.slice (some ⟨bS, oS, none⟩) s.slots.length cS, .slice (some ⟨bH, oH, none⟩) s.heads.length cH] 26)).heap[w.heap.size]? = some (.cells #[.slice (some ⟨bS, oS, none⟩) s.slots.length cS, .slice (some ⟨bH, oH, none⟩) s.heads.length cH] 26)) := by
      show _ = _
      have := heap_newG w (.cells #[.slice (some ⟨bS, oS, none⟩) s.slots.length cS, .slice (some ⟨bH, oH, none⟩) s.heads.length cH] 26)
      simpa using this
    have hL0 := hidS ((Below.refl w.heap.size w).alloc (Nat.le_refl _) (.cells #[.slice (some ⟨bS, oS, none⟩) s.slots.length cS, .slice (some ⟨bH, oH, none⟩) s.heads.length cH] 26))
    go_enter Try.func23, Try.ntmps23
    go_wp2_with fail
    refine (HS.out _ hL0.out).mono ?_
    rintro _ w1 ⟨rfl, hb1⟩
    have hGA1 := hidS (blk_later hGA0.out hb1)
    have hL1 := hidS (hL0.out.trans (hb1.mono hL0.out.size))
    clear hb1 hL0 hGA0
    have cA0 := blk_cell hGA1.out 0
    have cA1 := blk_cell hGA1.out 1
    simp at cA0 cA1
    go_wp2_with fail
    refine (HK.out _).mono ?_
    rintro _ v ⟨rfl, hv⟩
    rw [hv]
    clear hv v
    go_wp2_with fail
    refine (HL.out _ hL1.out).mono ?_
    rintro _ w2 ⟨rfl, hb2⟩
    clear cA0 cA1
    have hGA2 := hidS (blk_later hGA1.out hb2)
    have hL2 := hidS (hL1.out.trans (hb2.mono hL1.out.size))
    clear hb2 hL1 hGA1
    have c0 := HCL2.out _ hL2.out
    by_cases hv : -1 ≤ v
    · have EM : Hid (max v (-1) = v) := by show _ = _; omega
      go_wp2_with fail
      go_ret
      exact ⟨by rw [EZ.out, EM.out]; rfl, hL2.out⟩
    · have EM : Hid (max v (-1) = -1) := by show _ = _; omega
      have hv2 : v < -1 := by omega
      go_wp2_with fail
      go_ret
      exact ⟨by rw [EZ.out, EM.out]; rfl, hL2.out⟩
end Go.Proofs.Ytcopfejonbbmnaa
end

section
namespace Go.Proofs.Ytcopfejonbbmnaa
open Go.ChangeShapes Go.WideShapes Go.ChangeAt Go.RowKit
set_option linter.unusedVariables false
set_option linter.unusedSimpArgs false

section
variable {P : Program} {ops : Array Oper} {Q : Exit → Act → World → Prop} {a0 : Act}
/-- 'grow_guarded' with predicates for kinds -/
theorem grow_gk {id : Nat} {w0 : World} (n : Nat) (ks : List Kp) (hn : ops.size = n) (hm : P.follows .mixedOrders = true) (hT : tidyB ops a0.tmps.size = true) (hl : AllLastB ks)
    (hstep : StepsFrom (StepW P ops (fun W => Below w0.heap.size w0 W) (fun w w' => Below w.heap.size w w') (kpOf ks) a0) 0 ops.toList)
    (hend : ∀ (v : Nat → Value) (w : World), Below w0.heap.size w0 w → (∀ i, i < n → kpOf ks i (v i) w) → Q .normal (upto ops v a0 n) w) :
    (Code.region id ops true).wp P Q a0 w0 := by
  subst hn
  exact grow_region (fun W => Below w0.heap.size w0 W) (fun w w' => Below w.heap.size w w') (kpOf ks) hm hT (fun i v w w' h hb => all_lastB ks hl i v w w' h hb) (Below.refl _ _).drew (fun i o ho => step_of_w (tidy_of hT) ho (by
    have := steps_from ops.toList 0 hstep i o (by simpa using ho)
    rwa [Nat.zero_add] at this)) hend
end
end Go.Proofs.Ytcopfejonbbmnaa
end
