/- Proved here: spec.SlabFind answers the linked slot of a key of a right slab; all old memory stays (conditions: the slab's rows can be read; at most 2^20 numbers). · Proved here: nothing of a program: a right slab's numbers are small. · Proved here: impl.moreRefs answers the slab with so many holders more at a slot, in memory of its own; all old memory stays (conditions: the slab's rows can be read; it is right; one more or one less). -/
import Derived.Test.YtfjgofmjhccdkaaAll8
import Derived.Test.YtfjgofmjhccdkaaSlabFindS
import Derived.Test.YtfjgofmjhccdkaaAll11
import Derived.Test.YtfjgofmjhccdkaaAll13
import Derived.Test.YtfjgofmjhccdkaaAll12
import Derived.Test.YtfjgofmjhccdkaaAll10
section
namespace Go.Proofs.Ytfjgofmjhccdkaa
open Go.ChangeShapes Go.WideShapes Go.ChangeAt Go.RowKit
set_option linter.unusedVariables false
set_option linter.unusedSimpArgs false
set_option maxRecDepth 100000

/-- what SlabFind answers -/
def findAns (s : Slb) (key : Int) : Int := if (rightSl s && keyB key) = true then findSl s key else -1
set_option maxHeartbeats 1000000 in
theorem specSlabFind_any (aS aH : Option Addr) (cS cH : Nat) (s : Slb) (key : Int) (w : World) (hR : SlabZ aS aH s w) (h1 : s.slots.length ≤ 1048576) (h2 : s.heads.length ≤ 1048576) :
    Calls Try.prog 26 #[.agg #[.slice aS s.slots.length cS, .slice aH s.heads.length cH], .int .i64 key] w fun e w' => e = .returned (.int .i64 (findAns s key)) ∧ Below w.heap.size w w' := by
  have HS := hidS (fun W (h : Below w.heap.size w W) => specSlabRight_any aS aH cS cH s W (hR.later h) h1 h2)
  have HK := hidS (fun W => l06Key_any key W)
  cases hr : rightSl s
  · have EZ : Hid (findAns s key = -1) := by show _ = _; unfold findAns; rw [hr]; rfl
    rw [hr] at HS
    clear hr hR
    have hGA0 : Hid ((w.alloc (.cells #[.slice aS s.slots.length cS, .slice aH s.heads.length cH] 26)).heap[w.heap.size]? = some (.cells #[.slice aS s.slots.length cS, .slice aH s.heads.length cH] 26)) := by
      show _ = _
      have := heap_newG w (.cells #[.slice aS s.slots.length cS, .slice aH s.heads.length cH] 26)
      simpa using this
    have hL0 := hidS ((Below.refl w.heap.size w).alloc (Nat.le_refl _) (.cells #[.slice aS s.slots.length cS, .slice aH s.heads.length cH] 26))
    go_enter Try.func26, Try.ntmps26
    go_wp2_with fail
    refine (HS.out _ hL0.out).mono ?_
    rintro _ w1 ⟨rfl, hb1⟩
    have hGA1 := hidS (blk_later hGA0.out hb1)
    have hL1 := hidS (hL0.out.trans (hb1.mono hL0.out.size))
    clear hb1 hL0 hGA0
    have cA0 := blk_cell hGA1.out 0
    have cA1 := blk_cell hGA1.out 1
    simp at cA0 cA1
    go_wp2_with fail
    go_ret
    exact ⟨by rw [EZ.out]; rfl, hL1.out⟩
  rw [hr] at HS
  cases hk : keyB key
  · have EZ : Hid (findAns s key = -1) := by show _ = _; unfold findAns; rw [hr, hk]; rfl
    rw [hk] at HK
    clear hr hk hR
    have hGA0 : Hid ((w.alloc (.cells #[.slice aS s.slots.length cS, .slice aH s.heads.length cH] 26)).heap[w.heap.size]? = some (.cells #[.slice aS s.slots.length cS, .slice aH s.heads.length cH] 26)) := by
      show _ = _
      have := heap_newG w (.cells #[.slice aS s.slots.length cS, .slice aH s.heads.length cH] 26)
      simpa using this
    have hL0 := hidS ((Below.refl w.heap.size w).alloc (Nat.le_refl _) (.cells #[.slice aS s.slots.length cS, .slice aH s.heads.length cH] 26))
    go_enter Try.func26, Try.ntmps26
    go_wp2_with fail
    refine (HS.out _ hL0.out).mono ?_
    rintro _ w1 ⟨rfl, hb1⟩
    have hGA1 := hidS (blk_later hGA0.out hb1)
    have hL1 := hidS (hL0.out.trans (hb1.mono hL0.out.size))
    clear hb1 hL0 hGA0
    have cA0 := blk_cell hGA1.out 0
    have cA1 := blk_cell hGA1.out 1
    simp at cA0 cA1
    go_wp2_with fail
    refine (HK.out _).mono ?_
    rintro _ v ⟨rfl, hv⟩
    rw [hv]
    clear hv v
    go_wp2_with fail
    go_ret
    exact ⟨by rw [EZ.out]; rfl, hL1.out⟩
  · have EZ : Hid (findAns s key = findSl s key) := by show _ = _; unfold findAns; rw [hr, hk]; rfl
    rw [hk] at HK
    obtain ⟨hLe, n1, n2, n3, n4⟩ := right_leads hr
    have hk0 : 0 ≤ key := by unfold keyB at hk; simp at hk; exact hk.1
    have HF := hidS (fun W (h : Below w.heap.size w W) => l06Find_any aS aH cS cH s key W (hR.later h) hLe n2 n4 n3 hk0)
    generalize findSl s key = r at EZ HF
    clear hr hk hR hLe n1 n2 n3 n4 hk0
    have hGA0 : Hid ((w.alloc (.cells #[.slice aS s.slots.length cS, .slice aH s.heads.length cH] 26)).heap[w.heap.size]? = some (.cells #[.slice aS s.slots.length cS, .slice aH s.heads.length cH] 26)) := by
      show _ = _
      have := heap_newG w (.cells #[.slice aS s.slots.length cS, .slice aH s.heads.length cH] 26)
      simpa using this
    have hL0 := hidS ((Below.refl w.heap.size w).alloc (Nat.le_refl _) (.cells #[.slice aS s.slots.length cS, .slice aH s.heads.length cH] 26))
    go_enter Try.func26, Try.ntmps26
    go_wp2_with fail
    refine (HS.out _ hL0.out).mono ?_
    rintro _ w1 ⟨rfl, hb1⟩
    have hGA1 := hidS (blk_later hGA0.out hb1)
    have hL1 := hidS (hL0.out.trans (hb1.mono hL0.out.size))
    clear hb1 hL0 hGA0
    have cA0 := blk_cell hGA1.out 0
    have cA1 := blk_cell hGA1.out 1
    simp at cA0 cA1
    go_wp2_with fail
    refine (HK.out _).mono ?_
    rintro _ v ⟨rfl, hv⟩
    rw [hv]
    clear hv v
    go_wp2_with fail
    refine (HF.out _ hL1.out).mono ?_
    rintro _ w2 ⟨rfl, hb2⟩
    clear cA0 cA1
    have hGA2 := hidS (blk_later hGA1.out hb2)
    have hL2 := hidS (hL1.out.trans (hb2.mono hL1.out.size))
    clear hb2 hL1 hGA1
    go_wp2_with fail
    go_ret
    exact ⟨by rw [EZ.out]; rfl, hL2.out⟩
end Go.Proofs.Ytfjgofmjhccdkaa
end

section
namespace Go.Proofs.Ytfjgofmjhccdkaa
open Go.ChangeShapes Go.WideShapes Go.ChangeAt Go.RowKit
set_option linter.unusedVariables false
set_option linter.unusedSimpArgs false
set_option maxRecDepth 100000

theorem fit_of {z : Int} (h1 : -9223372036854775808 ≤ z) (h2 : z ≤ 9223372036854775807) : fitZ z := ⟨h1, h2⟩
theorem next_fit {nS nH : Nat} {z : Int} (h : nextB nS nH z = true) (h1 : nS ≤ 24) (h2 : nH ≤ 4) : fitZ z := by
  unfold nextB endB at h
  simp only [Bool.or_eq_true, Bool.and_eq_true, decide_eq_true_eq] at h
  exact fit_of (by omega) (by omega)
theorem right_fit {s : Slb} (h : rightSl s = true) : SlabFit s := by
  have R := rt_of h
  obtain ⟨n1, n2, n3, n4⟩ := rt_sizes R.sz
  refine ⟨fun x hx => ?_, fun z hz => ?_⟩
  · have := List.all_eq_true.1 R.sl x hx
    unfold okS at this
    simp only [Bool.and_eq_true] at this
    obtain ⟨⟨⟨k1, k2⟩, k3⟩, k4⟩ := this
    have q1 : 0 ≤ x.key ∧ x.key ≤ 999 := by unfold keyB at k1; simpa using k1
    have q2 := (time_iff _).1 k2
    have q3 := (time_iff _).1 k3
    exact ⟨fit_of (by omega) (by omega), fit_of (by omega) (by omega), fit_of (by omega) (by omega), next_fit k4 n2 n4⟩
  · obtain ⟨i, hi, e⟩ := List.getElem_of_mem hz
    have := head_next R hi
    rw [List.getD_eq_getElem?_getD, List.getElem?_eq_getElem hi] at this
    rw [← e]
    exact next_fit this n2 n4
end Go.Proofs.Ytfjgofmjhccdkaa
end

section
namespace Go.Proofs.Ytfjgofmjhccdkaa
open Go.ChangeShapes Go.WideShapes Go.ChangeAt Go.RowKit
set_option linter.unusedVariables false
set_option linter.unusedSimpArgs false
set_option maxRecDepth 100000

set_option maxHeartbeats 4000000 in
theorem moreRefs_any (bS oS bH oH cS cH : Nat) (s : Slb) (C : Nat) (m : Int) (w : World) (hR : SlabZ (some ⟨bS, oS, none⟩) (some ⟨bH, oH, none⟩) s w) (hr : rightSl s = true) (hC : C < s.slots.length) (m0 : -1 ≤ m) (m1 : m ≤ 1) :
    Calls Try.prog 71 #[.agg #[.slice (some ⟨bS, oS, none⟩) s.slots.length cS, .slice (some ⟨bH, oH, none⟩) s.heads.length cH], .int .i64 (C : Int), .int .i64 m] w fun e w' => OutAns (refS s (C : Int) ((slotN s (C : Int)).refs + m)) (C : Int) 0 w e w' := by
  obtain ⟨_, n1, n2, n3, n4⟩ := right_leads hr
  have hCC : (0 : Int) ≤ (C : Int) ∧ (C : Int) < (s.slots.length : Int) := by omega
  obtain ⟨x, hx⟩ : ∃ x, s.slots.getD C zeroSlt = x := ⟨_, rfl⟩
  have EX : Hid (slotN s (C : Int) = x) := by show _ = _; rw [slot_nat]; exact hx
  have hx0 := refs_nat hr hC
  rw [hx] at hx0
  obtain ⟨hx0, hx1⟩ := hx0
  have HCP := hidS (fun W (h : Below w.heap.size w W) => copySlab_any bS oS bH oH cS cH s W (hR.later h) n1 n2 n3 n4)
  have HX := hidS hx
  rw [EX.out]
  clear hR hr hx
  have hGA0 : Hid (((w.alloc (.cells #[.slice (some ⟨bS, oS, none⟩) s.slots.length cS, .slice (some ⟨bH, oH, none⟩) s.heads.length cH] 26)).alloc (.cells #[.slice none 0 0, .slice none 0 0, .int .i64 0, .int .i64 0] 47)).heap[w.heap.size]? = some (.cells #[.slice (some ⟨bS, oS, none⟩) s.slots.length cS, .slice (some ⟨bH, oH, none⟩) s.heads.length cH] 26)) := by
    show _ = _
    have := blk_alloc (heap_newG w (.cells #[.slice (some ⟨bS, oS, none⟩) s.slots.length cS, .slice (some ⟨bH, oH, none⟩) s.heads.length cH] 26)) (.cells #[.slice none 0 0, .slice none 0 0, .int .i64 0, .int .i64 0] 47)
    simpa using this
  have hGR0 : Hid (((w.alloc (.cells #[.slice (some ⟨bS, oS, none⟩) s.slots.length cS, .slice (some ⟨bH, oH, none⟩) s.heads.length cH] 26)).alloc (.cells #[.slice none 0 0, .slice none 0 0, .int .i64 0, .int .i64 0] 47)).heap[w.heap.size + 1]? = some (.cells #[.slice none 0 0, .slice none 0 0, .int .i64 0, .int .i64 0] 47)) := by
    show _ = _
    have := heap_newG (w.alloc (.cells #[.slice (some ⟨bS, oS, none⟩) s.slots.length cS, .slice (some ⟨bH, oH, none⟩) s.heads.length cH] 26)) (.cells #[.slice none 0 0, .slice none 0 0, .int .i64 0, .int .i64 0] 47)
    simpa using this
  have hL0 := hidS (((Below.refl w.heap.size w).alloc (Nat.le_refl _) (.cells #[.slice (some ⟨bS, oS, none⟩) s.slots.length cS, .slice (some ⟨bH, oH, none⟩) s.heads.length cH] 26)).alloc (by simp) (.cells #[.slice none 0 0, .slice none 0 0, .int .i64 0, .int .i64 0] 47))
  go_enter Try.func71, Try.ntmps71
  go_wp2_with fail
  refine (HCP.out _ hL0.out).mono ?_
  intro e w1 hans
  obtain ⟨b2, o2, cS2, b3, o3, cH2, rfl, p1, q1, hne, p3, q3, hb1⟩ := hans.rows n1 n3
  have hGA1 := hidS (blk_later hGA0.out hb1)
  have hGR1 := hidS (blk_later hGR0.out hb1)
  have hL1 := hidS (hL0.out.trans (hb1.mono hL0.out.size))
  have lR0 := blk_lt hGR0.out
  clear hans hGA0 hGR0 hL0 hb1 HCP
  have P2 := hidS (p3.later ((Below.refl w1.heap.size w1).alloc (Nat.le_refl _) (.cells #[.slice (some ⟨b2, o2, none⟩) s.slots.length cS2, .slice (some ⟨b3, o3, none⟩) s.heads.length cH2] 26)))
  have Q2 := hidS (q3.later ((Below.refl w1.heap.size w1).alloc (Nat.le_refl _) (.cells #[.slice (some ⟨b2, o2, none⟩) s.slots.length cS2, .slice (some ⟨b3, o3, none⟩) s.heads.length cH2] 26)))
  have lb2 := p3.lt
  have lb3 := q3.lt
  clear p3 q3
  go_upto_region 2 with fail
  have hGO2 := hidS (heap_newG w1 (.cells #[.slice (some ⟨b2, o2, none⟩) s.slots.length cS2, .slice (some ⟨b3, o3, none⟩) s.heads.length cH2] 26))
  have nO := blk_lt hGR1.out
  have hGA2 := hidS (blk_alloc hGA1.out (.cells #[.slice (some ⟨b2, o2, none⟩) s.slots.length cS2, .slice (some ⟨b3, o3, none⟩) s.heads.length cH2] 26))
  have hGR2 := hidS (blk_alloc hGR1.out (.cells #[.slice (some ⟨b2, o2, none⟩) s.slots.length cS2, .slice (some ⟨b3, o3, none⟩) s.heads.length cH2] 26))
  have hL2 := hidS (hL1.out.alloc hL1.out.size (.cells #[.slice (some ⟨b2, o2, none⟩) s.slots.length cS2, .slice (some ⟨b3, o3, none⟩) s.heads.length cH2] 26))
  clear hL1 hGA1 hGR1
  generalize w1.alloc (.cells #[.slice (some ⟨b2, o2, none⟩) s.slots.length cS2, .slice (some ⟨b3, o3, none⟩) s.heads.length cH2] 26) = w2 at P2 Q2 hGA2 hGR2 hGO2 hL2 ⊢
  have cO0 := blk_cell hGO2.out 0
  have cO1 := blk_cell hGO2.out 1
  simp at cO0 cO1
  obtain ⟨b2', o2', eS, _, c0, c1, d2, c3⟩ := P2.out.read.slot hC
  injection eS with eS; injection eS with eS1 eS2
  subst eS1 eS2
  rw [HX.out] at d2
  clear c0 c1 c3
  have f2 := (rowB_cells P2.out (4 * C + 2) (by rw [flat_len]; omega)).2
  rw [show o2 + (4 * C + 2) = o2 + C * 4 + 2 by omega] at f2
  have z0 : w.heap.size + 1 < b2 ∧ w.heap.size + 1 < b3 := by simp at p1 q1; omega
  have P3 : Hid (RowB b2 o2 (flat (refS s (C : Int) (x.refs + m)).slots) ((w2.setCell ⟨b2, o2 + C * 4 + 2, none⟩ (.int .i64 (x.refs + m))))) := by
    have h := P2.out.set (4 * C + 2) (x.refs + m) (by rw [flat_len]; omega)
    rw [flat_refs _ _ _ hC, HX.out, show o2 + (4 * C + 2) = o2 + C * 4 + 2 by omega] at h
    have e : (refS s (C : Int) (x.refs + m)).slots = s.slots.set C { x with refs := x.refs + m } := by unfold refS; rw [EX.out]; rfl
    show RowB _ _ _ _
    rw [e]
    exact h
  have Q3 : Hid (RowB b3 o3 s.heads ((w2.setCell ⟨b2, o2 + C * 4 + 2, none⟩ (.int .i64 (x.refs + m))))) := hidS (RowB.other (g := b2) (k := o2 + C * 4 + 2) (v := .int .i64 (x.refs + m)) Q2.out (fun e => hne e.symm))
  have hGR3 : Hid (((w2.setCell ⟨b2, o2 + C * 4 + 2, none⟩ (.int .i64 (x.refs + m)))).heap[w.heap.size + 1]? = some (.cells #[.slice none 0 0, .slice none 0 0, .int .i64 0, .int .i64 0] 47)) := hidS (blk_other (B := b2) hGR2.out (by omega) (o2 + C * 4 + 2) (.int .i64 (x.refs + m)))
  have hGO3 : Hid (((w2.setCell ⟨b2, o2 + C * 4 + 2, none⟩ (.int .i64 (x.refs + m)))).heap[w1.heap.size]? = some (.cells #[.slice (some ⟨b2, o2, none⟩) s.slots.length cS2, .slice (some ⟨b3, o3, none⟩) s.heads.length cH2] 26)) := hidS (blk_other (B := b2) hGO2.out (by omega) (o2 + C * 4 + 2) (.int .i64 (x.refs + m)))
  have hL3 : Hid (Below w.heap.size w ((w2.setCell ⟨b2, o2 + C * 4 + 2, none⟩ (.int .i64 (x.refs + m))))) := hidS (below_at (k := o2 + C * 4 + 2) (b := b2) (v := .int .i64 (x.refs + m)) hL2.out (by omega))
  go_upto_region 3 with fail
  clear P2 Q2 hGA2 hGR2 hGO2 hL2 cO0 cO1 d2 f2
  generalize (w2.setCell ⟨b2, o2 + C * 4 + 2, none⟩ (.int .i64 (x.refs + m))) = w3 at P3 Q3 hGR3 hGO3 hL3 ⊢
  have cO0 := blk_cell hGO3.out 0
  have cO1 := blk_cell hGO3.out 1
  simp at cO0 cO1
  have kR := blk_cell hGR3.out
  have fR := blk_free hGR3.out
  have hlen : Hid ((refS s (C : Int) (x.refs + m)).slots.length = s.slots.length) := by show _ = _; simp [refS]
  go_wp2_with fail
  refine bodyPost_ret (v := .agg #[.slice (some ⟨b2, o2, none⟩) s.slots.length cS2, .slice (some ⟨b3, o3, none⟩) s.heads.length cH2, .int .i64 (C : Int), .int .i64 0]) (by simp [results, Try.results71, go_sem, *]) rfl ?_
  refine ⟨some ⟨b2, o2, none⟩, cS2, some ⟨b3, o3, none⟩, cH2, by rw [hlen.out]; rfl, rows_own (by omega) (by omega) hne ?_ ?_, ?_⟩
  · repeat (refine RowB.other ?_ (by omega))
    exact P3.out
  · repeat (refine RowB.other ?_ (by omega))
    exact Q3.out
  · repeat (refine below_at ?_ (by omega))
    exact hL3.out
end Go.Proofs.Ytfjgofmjhccdkaa
end
