/- Proved here: impl.SlabAdd answers the slab with a key added, in memory of its own, or a code; all old memory stays (conditions: the slab's rows can be read; at most 2^20 numbers; numbers of int64). -/
import Derived.Test.YtfjgofmjhccdkaaAll24
import Derived.Test.YtfjgofmjhccdkaaAll12
import Derived.Test.YtfjgofmjhccdkaaAll13
import Derived.Test.YtfjgofmjhccdkaaAll10
import Derived.BigRegion
namespace Go.Proofs.Ytfjgofmjhccdkaa
open Go.ChangeShapes Go.WideShapes Go.ChangeAt Go.RowKit
set_option linter.unusedVariables false
set_option linter.unusedSimpArgs false
set_option maxRecDepth 100000

set_option maxHeartbeats 8000000 in
theorem implSlabAdd_any (aS aH : Option Addr) (cS cH : Nat) (s : Slb) (key : Int) (w : World) (hR : SlabZ aS aH s w) (hF : SlabFit s) (h1 : s.slots.length ≤ 1048576) (h2 : s.heads.length ≤ 1048576) :
    Calls Try.prog 24 #[.agg #[.slice aS s.slots.length cS, .slice aH s.heads.length cH], .int .i64 key] w fun e w' => OutAns (addS s key) (addA s key) (addC s key) w e w' := by
  have HS := hidS (fun W (h : Below w.heap.size w W) => implSlabRight_any aS aH cS cH s W (hR.later h) hF h1 h2)
  have HK := hidS (fun W => implIsKey_any key W)
  have ILL : Hid (∀ q : Int, q ≠ 0 → addC s key = q → ∀ e w', e = .returned (.agg #[.slice none 0 0, .slice none 0 0, .int .i64 0, .int .i64 q]) ∧ Below w.heap.size w w' → OutAns (addS s key) (addA s key) (addC s key) w e w') := by
    refine hidS (fun q hq hc e w' h => ?_)
    obtain ⟨e1, e2⟩ := add_ill hc hq
    rw [e1, e2, hc]
    exact ill_out h
  cases hr : rightSl s
  · have EC : addC s key = 1 := by unfold addC addOk; rw [hr]; rfl
    refine Calls.mono (R := fun e w' => e = .returned (.agg #[.slice none 0 0, .slice none 0 0, .int .i64 0, .int .i64 1]) ∧ Below w.heap.size w w') ?_ (ILL.out 1 (by decide) EC)
    rw [hr] at HS
    clear hr hR ILL EC
    have hGA0 : Hid (((w.alloc (.cells #[.slice aS s.slots.length cS, .slice aH s.heads.length cH] 26)).alloc (.cells #[.slice none 0 0, .slice none 0 0, .int .i64 0, .int .i64 0] 47)).heap[w.heap.size]? = some (.cells #[.slice aS s.slots.length cS, .slice aH s.heads.length cH] 26)) := by
      show _ = _
      have := blk_alloc (heap_newG w (.cells #[.slice aS s.slots.length cS, .slice aH s.heads.length cH] 26)) (.cells #[.slice none 0 0, .slice none 0 0, .int .i64 0, .int .i64 0] 47)
      simpa using this
    have hGR0 : Hid (((w.alloc (.cells #[.slice aS s.slots.length cS, .slice aH s.heads.length cH] 26)).alloc (.cells #[.slice none 0 0, .slice none 0 0, .int .i64 0, .int .i64 0] 47)).heap[w.heap.size + 1]? = some (.cells #[.slice none 0 0, .slice none 0 0, .int .i64 0, .int .i64 0] 47)) := by
      show _ = _
      have := heap_newG (w.alloc (.cells #[.slice aS s.slots.length cS, .slice aH s.heads.length cH] 26)) (.cells #[.slice none 0 0, .slice none 0 0, .int .i64 0, .int .i64 0] 47)
      simpa using this
    have hL0 := hidS (((Below.refl w.heap.size w).alloc (Nat.le_refl _) (.cells #[.slice aS s.slots.length cS, .slice aH s.heads.length cH] 26)).alloc (by simp) (.cells #[.slice none 0 0, .slice none 0 0, .int .i64 0, .int .i64 0] 47))
    go_enter Try.func24, Try.ntmps24
    go_wp2_with fail
    refine (HS.out _ hL0.out).mono ?_
    rintro _ w1 ⟨rfl, hb1⟩
    have hGA1 := hidS (blk_later hGA0.out hb1)
    have hGR1 := hidS (blk_later hGR0.out hb1)
    have hL1 := hidS (hL0.out.trans (hb1.mono hL0.out.size))
    clear hb1 hL0 hGA0 hGR0
    have cA0 := blk_cell hGA1.out 0
    have cA1 := blk_cell hGA1.out 1
    simp at cA0 cA1
    have kR := blk_cell hGR1.out
    have fR := blk_free hGR1.out
    go_wp2_with fail
    refine bodyPost_ret (v := .agg #[.slice none 0 0, .slice none 0 0, .int .i64 0, .int .i64 1]) (by simp [results, Try.results24, go_sem, *]) rfl ⟨rfl, ?_⟩
    repeat (refine below_at ?_ (by omega))
    exact hL1.out
  rw [hr] at HS
  cases hk : keyB key
  · have EC : addC s key = 1 := by unfold addC addOk; rw [hr, hk]; rfl
    refine Calls.mono (R := fun e w' => e = .returned (.agg #[.slice none 0 0, .slice none 0 0, .int .i64 0, .int .i64 1]) ∧ Below w.heap.size w w') ?_ (ILL.out 1 (by decide) EC)
    rw [hk] at HK
    clear hr hR ILL EC hk
    have hGA0 : Hid (((w.alloc (.cells #[.slice aS s.slots.length cS, .slice aH s.heads.length cH] 26)).alloc (.cells #[.slice none 0 0, .slice none 0 0, .int .i64 0, .int .i64 0] 47)).heap[w.heap.size]? = some (.cells #[.slice aS s.slots.length cS, .slice aH s.heads.length cH] 26)) := by
      show _ = _
      have := blk_alloc (heap_newG w (.cells #[.slice aS s.slots.length cS, .slice aH s.heads.length cH] 26)) (.cells #[.slice none 0 0, .slice none 0 0, .int .i64 0, .int .i64 0] 47)
      simpa using this
    have hGR0 : Hid (((w.alloc (.cells #[.slice aS s.slots.length cS, .slice aH s.heads.length cH] 26)).alloc (.cells #[.slice none 0 0, .slice none 0 0, .int .i64 0, .int .i64 0] 47)).heap[w.heap.size + 1]? = some (.cells #[.slice none 0 0, .slice none 0 0, .int .i64 0, .int .i64 0] 47)) := by
      show _ = _
      have := heap_newG (w.alloc (.cells #[.slice aS s.slots.length cS, .slice aH s.heads.length cH] 26)) (.cells #[.slice none 0 0, .slice none 0 0, .int .i64 0, .int .i64 0] 47)
      simpa using this
    have hL0 := hidS (((Below.refl w.heap.size w).alloc (Nat.le_refl _) (.cells #[.slice aS s.slots.length cS, .slice aH s.heads.length cH] 26)).alloc (by simp) (.cells #[.slice none 0 0, .slice none 0 0, .int .i64 0, .int .i64 0] 47))
    go_enter Try.func24, Try.ntmps24
    go_wp2_with fail
    refine (HS.out _ hL0.out).mono ?_
    rintro _ w1 ⟨rfl, hb1⟩
    have hGA1 := hidS (blk_later hGA0.out hb1)
    have hGR1 := hidS (blk_later hGR0.out hb1)
    have hL1 := hidS (hL0.out.trans (hb1.mono hL0.out.size))
    clear hb1 hL0 hGA0 hGR0
    have cA0 := blk_cell hGA1.out 0
    have cA1 := blk_cell hGA1.out 1
    simp at cA0 cA1
    go_wp2_with fail
    refine (HK.out _).mono ?_
    rintro _ v ⟨rfl, hv⟩
    rw [hv]
    clear hv v
    have kR := blk_cell hGR1.out
    have fR := blk_free hGR1.out
    go_wp2_with fail
    refine bodyPost_ret (v := .agg #[.slice none 0 0, .slice none 0 0, .int .i64 0, .int .i64 1]) (by simp [results, Try.results24, go_sem, *]) rfl ⟨rfl, ?_⟩
    repeat (refine below_at ?_ (by omega))
    exact hL1.out
  rw [hk] at HK
  have EOK : addOk s key = true := by unfold addOk; rw [hr, hk]; rfl
  obtain ⟨hLe, n1, n2, n3, n4⟩ := right_leads hr
  obtain ⟨k0, k1⟩ : 0 ≤ key ∧ key ≤ 999 := by unfold keyB at hk; simp at hk; exact hk
  obtain ⟨bS, oS, rfl, _⟩ := hR.slots.slot (i := 0) (by omega)
  obtain ⟨bH, oH, rfl, _⟩ := hR.heads 0 (by omega)
  have HL := hidS (fun W (h : Below w.heap.size w W) => linkTo_any bS oS bH oH cS cH s key W (hR.later h) hr k0 k1)
  obtain ⟨hok, hfi⟩ := link_find (key := key) hr k0
  have HCL : Hid (∀ W, Below w.heap.size w W → W.cell? ⟨(adrL bS oS bH oH (chN s key) (linkP s key)).1, (adrL bS oS bH oH (chN s key) (linkP s key)).2, none⟩ = some (.int .i64 (linkN s key))) := hidS (fun W (h : Below w.heap.size w W) => (link_cell (hR.later h) (chN_lt (s := s) k0 n3).1 hok).2)
  generalize (adrL bS oS bH oH (chN s key) (linkP s key)).1 = B at HL HCL
  generalize (adrL bS oS bH oH (chN s key) (linkP s key)).2 = O at HL HCL
  have HFI := hidS hfi
  clear hok hfi
  generalize linkN s key = v at HFI HCL
  by_cases hf : 0 ≤ findSl s key
  · have EC : addC s key = 7 := by unfold addC; rw [if_pos EOK, if_pos hf]
    refine Calls.mono (R := fun e w' => e = .returned (.agg #[.slice none 0 0, .slice none 0 0, .int .i64 0, .int .i64 7]) ∧ Below w.heap.size w w') ?_ (ILL.out 7 (by decide) EC)
    have hv : 0 ≤ v := by rcases HFI.out with ⟨q1, q2⟩ | ⟨q1, q2, q3⟩ <;> omega
    clear hr hR ILL EC hk EOK hf HFI
    have hGA0 : Hid (((w.alloc (.cells #[.slice (some ⟨bS, oS, none⟩) s.slots.length cS, .slice (some ⟨bH, oH, none⟩) s.heads.length cH] 26)).alloc (.cells #[.slice none 0 0, .slice none 0 0, .int .i64 0, .int .i64 0] 47)).heap[w.heap.size]? = some (.cells #[.slice (some ⟨bS, oS, none⟩) s.slots.length cS, .slice (some ⟨bH, oH, none⟩) s.heads.length cH] 26)) := by
      show _ = _
      have := blk_alloc (heap_newG w (.cells #[.slice (some ⟨bS, oS, none⟩) s.slots.length cS, .slice (some ⟨bH, oH, none⟩) s.heads.length cH] 26)) (.cells #[.slice none 0 0, .slice none 0 0, .int .i64 0, .int .i64 0] 47)
      simpa using this
    have hGR0 : Hid (((w.alloc (.cells #[.slice (some ⟨bS, oS, none⟩) s.slots.length cS, .slice (some ⟨bH, oH, none⟩) s.heads.length cH] 26)).alloc (.cells #[.slice none 0 0, .slice none 0 0, .int .i64 0, .int .i64 0] 47)).heap[w.heap.size + 1]? = some (.cells #[.slice none 0 0, .slice none 0 0, .int .i64 0, .int .i64 0] 47)) := by
      show _ = _
      have := heap_newG (w.alloc (.cells #[.slice (some ⟨bS, oS, none⟩) s.slots.length cS, .slice (some ⟨bH, oH, none⟩) s.heads.length cH] 26)) (.cells #[.slice none 0 0, .slice none 0 0, .int .i64 0, .int .i64 0] 47)
      simpa using this
    have hL0 := hidS (((Below.refl w.heap.size w).alloc (Nat.le_refl _) (.cells #[.slice (some ⟨bS, oS, none⟩) s.slots.length cS, .slice (some ⟨bH, oH, none⟩) s.heads.length cH] 26)).alloc (by simp) (.cells #[.slice none 0 0, .slice none 0 0, .int .i64 0, .int .i64 0] 47))
    go_enter Try.func24, Try.ntmps24
    go_wp2_with fail
    refine (HS.out _ hL0.out).mono ?_
    rintro _ w1 ⟨rfl, hb1⟩
    have hGA1 := hidS (blk_later hGA0.out hb1)
    have hGR1 := hidS (blk_later hGR0.out hb1)
    have hL1 := hidS (hL0.out.trans (hb1.mono hL0.out.size))
    clear hb1 hL0 hGA0 hGR0
    have cA0 := blk_cell hGA1.out 0
    have cA1 := blk_cell hGA1.out 1
    simp at cA0 cA1
    go_wp2_with fail
    refine (HK.out _).mono ?_
    rintro _ v ⟨rfl, hv⟩
    rw [hv]
    clear hv v
    go_wp2_with fail
    refine (HL.out _ hL1.out).mono ?_
    rintro _ w2 ⟨rfl, hb2⟩
    clear cA0 cA1
    have hGA2 := hidS (blk_later hGA1.out hb2)
    have hGR2 := hidS (blk_later hGR1.out hb2)
    have hL2 := hidS (hL1.out.trans (hb2.mono hL1.out.size))
    clear hb2 hL1 hGA1 hGR1
    have lv := HCL.out _ hL2.out
    have kR := blk_cell hGR2.out
    have fR := blk_free hGR2.out
    go_wp2_with fail
    refine bodyPost_ret (v := .agg #[.slice none 0 0, .slice none 0 0, .int .i64 0, .int .i64 7]) (by simp [results, Try.results24, go_sem, *]) rfl ⟨rfl, ?_⟩
    repeat (refine below_at ?_ (by omega))
    exact hL2.out
  have hv : ¬ 0 ≤ v := by rcases HFI.out with ⟨q1, q2⟩ | ⟨q1, q2, q3⟩ <;> omega
  have EC0 : Hid (addC s key = if addFull s = true then 9 else 0) := by show _ = _; unfold addC; rw [if_pos EOK, if_neg hf]
  have HIX := hidS (fun W (h : Below w.heap.size w W) => indexFree_any bS oS cS s.slots W (hR.slots.later h) (by omega) (fun i hi => (refs_nat hr hi).1))
  clear hf HFI EOK hk
  by_cases hfull : ¬ freeK s.slots < s.slots.length
  · have hfe : freeK s.slots = s.slots.length := by
      have : ∀ ss : List Slt, freeK ss ≤ ss.length := by
        intro ss
        induction ss with
        | nil => simp [freeK]
        | cons x ss ih => unfold freeK; split <;> simp <;> omega
      have := this s.slots
      omega
    have EC : addC s key = 9 := by rw [EC0.out]; unfold addFull; rw [hfe]; simp
    refine Calls.mono (R := fun e w' => e = .returned (.agg #[.slice none 0 0, .slice none 0 0, .int .i64 0, .int .i64 9]) ∧ Below w.heap.size w w') ?_ (ILL.out 9 (by decide) EC)
    have e1 : freeI s.slots = -1 := by unfold freeI; rw [if_neg hfull]
    rw [e1] at HIX
    clear hr hR ILL EC EC0 hfull hfe e1
    have hGA0 : Hid (((w.alloc (.cells #[.slice (some ⟨bS, oS, none⟩) s.slots.length cS, .slice (some ⟨bH, oH, none⟩) s.heads.length cH] 26)).alloc (.cells #[.slice none 0 0, .slice none 0 0, .int .i64 0, .int .i64 0] 47)).heap[w.heap.size]? = some (.cells #[.slice (some ⟨bS, oS, none⟩) s.slots.length cS, .slice (some ⟨bH, oH, none⟩) s.heads.length cH] 26)) := by
      show _ = _
      have := blk_alloc (heap_newG w (.cells #[.slice (some ⟨bS, oS, none⟩) s.slots.length cS, .slice (some ⟨bH, oH, none⟩) s.heads.length cH] 26)) (.cells #[.slice none 0 0, .slice none 0 0, .int .i64 0, .int .i64 0] 47)
      simpa using this
    have hGR0 : Hid (((w.alloc (.cells #[.slice (some ⟨bS, oS, none⟩) s.slots.length cS, .slice (some ⟨bH, oH, none⟩) s.heads.length cH] 26)).alloc (.cells #[.slice none 0 0, .slice none 0 0, .int .i64 0, .int .i64 0] 47)).heap[w.heap.size + 1]? = some (.cells #[.slice none 0 0, .slice none 0 0, .int .i64 0, .int .i64 0] 47)) := by
      show _ = _
      have := heap_newG (w.alloc (.cells #[.slice (some ⟨bS, oS, none⟩) s.slots.length cS, .slice (some ⟨bH, oH, none⟩) s.heads.length cH] 26)) (.cells #[.slice none 0 0, .slice none 0 0, .int .i64 0, .int .i64 0] 47)
      simpa using this
    have hL0 := hidS (((Below.refl w.heap.size w).alloc (Nat.le_refl _) (.cells #[.slice (some ⟨bS, oS, none⟩) s.slots.length cS, .slice (some ⟨bH, oH, none⟩) s.heads.length cH] 26)).alloc (by simp) (.cells #[.slice none 0 0, .slice none 0 0, .int .i64 0, .int .i64 0] 47))
    go_enter Try.func24, Try.ntmps24
    go_wp2_with fail
    refine (HS.out _ hL0.out).mono ?_
    rintro _ w1 ⟨rfl, hb1⟩
    have hGA1 := hidS (blk_later hGA0.out hb1)
    have hGR1 := hidS (blk_later hGR0.out hb1)
    have hL1 := hidS (hL0.out.trans (hb1.mono hL0.out.size))
    clear hb1 hL0 hGA0 hGR0
    have cA0 := blk_cell hGA1.out 0
    have cA1 := blk_cell hGA1.out 1
    simp at cA0 cA1
    go_wp2_with fail
    refine (HK.out _).mono ?_
    rintro _ v ⟨rfl, hv⟩
    rw [hv]
    clear hv v
    go_wp2_with fail
    refine (HL.out _ hL1.out).mono ?_
    rintro _ w2 ⟨rfl, hb2⟩
    clear cA0 cA1
    have hGA2 := hidS (blk_later hGA1.out hb2)
    have hGR2 := hidS (blk_later hGR1.out hb2)
    have hL2 := hidS (hL1.out.trans (hb2.mono hL1.out.size))
    clear hb2 hL1 hGA1 hGR1
    have lv := HCL.out _ hL2.out
    have cA0 := blk_cell hGA2.out 0
    have cA1 := blk_cell hGA2.out 1
    simp at cA0 cA1
    go_wp2_with fail
    refine (HIX.out _ hL2.out).mono ?_
    rintro _ w3 ⟨rfl, hb3⟩
    clear lv cA0 cA1
    have hGA3 := hidS (blk_later hGA2.out hb3)
    have hGR3 := hidS (blk_later hGR2.out hb3)
    have hL3 := hidS (hL2.out.trans (hb3.mono hL2.out.size))
    clear hb3 hL2 hGA2 hGR2
    have kR := blk_cell hGR3.out
    have fR := blk_free hGR3.out
    go_wp2_with fail
    refine bodyPost_ret (v := .agg #[.slice none 0 0, .slice none 0 0, .int .i64 0, .int .i64 9]) (by simp [results, Try.results24, go_sem, *]) rfl ⟨rfl, ?_⟩
    repeat (refine below_at ?_ (by omega))
    exact hL3.out
  have hfull := Classical.not_not.1 hfull
  obtain ⟨k, hkf⟩ : ∃ k, freeK s.slots = k := ⟨_, rfl⟩
  have e1 : freeI s.slots = (k : Int) := by unfold freeI; rw [if_pos hfull, hkf]
  rw [e1] at HIX
  rw [hkf] at hfull
  have hkk : (0 : Int) ≤ (k : Int) ∧ (k : Int) < (s.slots.length : Int) := by omega
  have hk2 : ¬ (k : Int) < 0 := by omega
  obtain ⟨x, hx⟩ : ∃ x, s.slots.getD k zeroSlt = x := ⟨_, rfl⟩
  have hg := gen_nat hr hfull
  rw [hx] at hg
  obtain ⟨hg0, hg1⟩ := hg
  have HX := hidS hx
  have EF : Hid (freeK s.slots = k) := hidS hkf
  have HSL : Hid (∀ W, Below w.heap.size w W → bS < W.heap.size ∧ W.cell? ⟨bS, oS + k * 4, none⟩ = some (.int .i64 x.key) ∧ W.cell? ⟨bS, oS + k * 4 + 1, none⟩ = some (.int .i64 x.gen) ∧ W.cell? ⟨bS, oS + k * 4 + 2, none⟩ = some (.int .i64 x.refs) ∧ W.cell? ⟨bS, oS + k * 4 + 3, none⟩ = some (.int .i64 x.next)) := hidS (fun W h => by
    obtain ⟨b', o', eS, lS, c0, c1, c2, c3⟩ := (hR.slots.later h).slot hfull
    injection eS with eS; injection eS with eS1 eS2
    subst eS1 eS2
    rw [hx] at c0 c1 c2 c3
    exact ⟨lS, c0, c1, c2, c3⟩)
  clear e1 hkf hx
  by_cases hgm : x.gen = 1000000
  · have EC : addC s key = 9 := by rw [EC0.out]; unfold addFull; rw [EF.out, HX.out, hgm]; simp
    refine Calls.mono (R := fun e w' => e = .returned (.agg #[.slice none 0 0, .slice none 0 0, .int .i64 0, .int .i64 9]) ∧ Below w.heap.size w w') ?_ (ILL.out 9 (by decide) EC)
    have hgb : (x.gen == 1000000) = true := beq_iff_eq.2 hgm
    clear hr hR ILL EC EC0 hgm hg0 hg1
    have hGA0 : Hid (((w.alloc (.cells #[.slice (some ⟨bS, oS, none⟩) s.slots.length cS, .slice (some ⟨bH, oH, none⟩) s.heads.length cH] 26)).alloc (.cells #[.slice none 0 0, .slice none 0 0, .int .i64 0, .int .i64 0] 47)).heap[w.heap.size]? = some (.cells #[.slice (some ⟨bS, oS, none⟩) s.slots.length cS, .slice (some ⟨bH, oH, none⟩) s.heads.length cH] 26)) := by
      show _ = _
      have := blk_alloc (heap_newG w (.cells #[.slice (some ⟨bS, oS, none⟩) s.slots.length cS, .slice (some ⟨bH, oH, none⟩) s.heads.length cH] 26)) (.cells #[.slice none 0 0, .slice none 0 0, .int .i64 0, .int .i64 0] 47)
      simpa using this
    have hGR0 : Hid (((w.alloc (.cells #[.slice (some ⟨bS, oS, none⟩) s.slots.length cS, .slice (some ⟨bH, oH, none⟩) s.heads.length cH] 26)).alloc (.cells #[.slice none 0 0, .slice none 0 0, .int .i64 0, .int .i64 0] 47)).heap[w.heap.size + 1]? = some (.cells #[.slice none 0 0, .slice none 0 0, .int .i64 0, .int .i64 0] 47)) := by
      show _ = _
      have := heap_newG (w.alloc (.cells #[.slice (some ⟨bS, oS, none⟩) s.slots.length cS, .slice (some ⟨bH, oH, none⟩) s.heads.length cH] 26)) (.cells #[.slice none 0 0, .slice none 0 0, .int .i64 0, .int .i64 0] 47)
      simpa using this
    have hL0 := hidS (((Below.refl w.heap.size w).alloc (Nat.le_refl _) (.cells #[.slice (some ⟨bS, oS, none⟩) s.slots.length cS, .slice (some ⟨bH, oH, none⟩) s.heads.length cH] 26)).alloc (by simp) (.cells #[.slice none 0 0, .slice none 0 0, .int .i64 0, .int .i64 0] 47))
    go_enter Try.func24, Try.ntmps24
    go_wp2_with fail
    refine (HS.out _ hL0.out).mono ?_
    rintro _ w1 ⟨rfl, hb1⟩
    have hGA1 := hidS (blk_later hGA0.out hb1)
    have hGR1 := hidS (blk_later hGR0.out hb1)
    have hL1 := hidS (hL0.out.trans (hb1.mono hL0.out.size))
    clear hb1 hL0 hGA0 hGR0
    have cA0 := blk_cell hGA1.out 0
    have cA1 := blk_cell hGA1.out 1
    simp at cA0 cA1
    go_wp2_with fail
    refine (HK.out _).mono ?_
    rintro _ v ⟨rfl, hv⟩
    rw [hv]
    clear hv v
    go_wp2_with fail
    refine (HL.out _ hL1.out).mono ?_
    rintro _ w2 ⟨rfl, hb2⟩
    clear cA0 cA1
    have hGA2 := hidS (blk_later hGA1.out hb2)
    have hGR2 := hidS (blk_later hGR1.out hb2)
    have hL2 := hidS (hL1.out.trans (hb2.mono hL1.out.size))
    clear hb2 hL1 hGA1 hGR1
    have lv := HCL.out _ hL2.out
    have cA0 := blk_cell hGA2.out 0
    have cA1 := blk_cell hGA2.out 1
    simp at cA0 cA1
    go_wp2_with fail
    refine (HIX.out _ hL2.out).mono ?_
    rintro _ w3 ⟨rfl, hb3⟩
    clear lv cA0 cA1
    have hGA3 := hidS (blk_later hGA2.out hb3)
    have hGR3 := hidS (blk_later hGR2.out hb3)
    have hL3 := hidS (hL2.out.trans (hb3.mono hL2.out.size))
    clear hb3 hL2 hGA2 hGR2
    obtain ⟨lS, c0, c1, c2, c3⟩ := HSL.out _ hL3.out
    have cA0 := blk_cell hGA3.out 0
    have cA1 := blk_cell hGA3.out 1
    simp at cA0 cA1
    have kR := blk_cell hGR3.out
    have fR := blk_free hGR3.out
    go_wp2_with fail
    refine bodyPost_ret (v := .agg #[.slice none 0 0, .slice none 0 0, .int .i64 0, .int .i64 9]) (by simp [results, Try.results24, go_sem, *]) rfl ⟨rfl, ?_⟩
    repeat (refine below_at ?_ (by omega))
    exact hL3.out
  have hgb : (x.gen == 1000000) = false := beq_eq_false_iff_ne.2 hgm
  have EC : addC s key = 0 := by rw [EC0.out]; unfold addFull; rw [EF.out, HX.out, if_neg (by simp; omega)]
  obtain ⟨hcl, hce⟩ := chN_lt (s := s) k0 n3
  have HCF := hidS (fun W => chainFor_any (some ⟨bS, oS, none⟩) (some ⟨bH, oH, none⟩) s.slots.length cS s.heads.length cH key W k0 k1 (by omega) n3)
  rw [← hce] at HCF
  obtain ⟨h, hh⟩ : ∃ h, s.heads.getD (chN s key) 0 = h := ⟨_, rfl⟩
  have EI : addIn s key = ⟨s.slots.set k ⟨key, x.gen + 1, 1, h⟩, s.heads.set (chN s key) (k : Int)⟩ := by unfold addIn; rw [EF.out, HX.out]; show (⟨_, _⟩ : Slb) = _; rw [← hh]; rfl
  have ES : addS s key = ⟨s.slots.set k ⟨key, x.gen + 1, 1, h⟩, s.heads.set (chN s key) (k : Int)⟩ := by unfold addS; rw [EC, if_pos rfl, EI]
  have EA : addA s key = (k : Int) := by unfold addA; rw [EC, if_pos rfl, EF.out]
  rw [ES, EA, EC]
  have HH := hidS hh
  have HCP := hidS (fun W (h : Below w.heap.size w W) => copySlab_any bS oS bH oH cS cH s W (hR.later h) n1 n2 n3 n4)
  have hcc : (0 : Int) ≤ (chN s key : Int) ∧ (chN s key : Int) < (s.heads.length : Int) := by omega
  generalize hcn : chN s key = c at HCF HH hcl hcc ⊢
  clear hr hR ILL EC EC0 ES EA EI hgm hLe hh hce hcn
  have hGA0 : Hid (((w.alloc (.cells #[.slice (some ⟨bS, oS, none⟩) s.slots.length cS, .slice (some ⟨bH, oH, none⟩) s.heads.length cH] 26)).alloc (.cells #[.slice none 0 0, .slice none 0 0, .int .i64 0, .int .i64 0] 47)).heap[w.heap.size]? = some (.cells #[.slice (some ⟨bS, oS, none⟩) s.slots.length cS, .slice (some ⟨bH, oH, none⟩) s.heads.length cH] 26)) := by
    show _ = _
    have := blk_alloc (heap_newG w (.cells #[.slice (some ⟨bS, oS, none⟩) s.slots.length cS, .slice (some ⟨bH, oH, none⟩) s.heads.length cH] 26)) (.cells #[.slice none 0 0, .slice none 0 0, .int .i64 0, .int .i64 0] 47)
    simpa using this
  have hGR0 : Hid (((w.alloc (.cells #[.slice (some ⟨bS, oS, none⟩) s.slots.length cS, .slice (some ⟨bH, oH, none⟩) s.heads.length cH] 26)).alloc (.cells #[.slice none 0 0, .slice none 0 0, .int .i64 0, .int .i64 0] 47)).heap[w.heap.size + 1]? = some (.cells #[.slice none 0 0, .slice none 0 0, .int .i64 0, .int .i64 0] 47)) := by
    show _ = _
    have := heap_newG (w.alloc (.cells #[.slice (some ⟨bS, oS, none⟩) s.slots.length cS, .slice (some ⟨bH, oH, none⟩) s.heads.length cH] 26)) (.cells #[.slice none 0 0, .slice none 0 0, .int .i64 0, .int .i64 0] 47)
    simpa using this
  have hL0 := hidS (((Below.refl w.heap.size w).alloc (Nat.le_refl _) (.cells #[.slice (some ⟨bS, oS, none⟩) s.slots.length cS, .slice (some ⟨bH, oH, none⟩) s.heads.length cH] 26)).alloc (by simp) (.cells #[.slice none 0 0, .slice none 0 0, .int .i64 0, .int .i64 0] 47))
  go_enter Try.func24, Try.ntmps24
  go_wp2_with fail
  refine (HS.out _ hL0.out).mono ?_
  rintro _ w1 ⟨rfl, hb1⟩
  have hGA1 := hidS (blk_later hGA0.out hb1)
  have hGR1 := hidS (blk_later hGR0.out hb1)
  have hL1 := hidS (hL0.out.trans (hb1.mono hL0.out.size))
  clear hb1 hL0 hGA0 hGR0
  have cA0 := blk_cell hGA1.out 0
  have cA1 := blk_cell hGA1.out 1
  simp at cA0 cA1
  go_wp2_with fail
  refine (HK.out _).mono ?_
  rintro _ v ⟨rfl, hv⟩
  rw [hv]
  clear hv v
  go_wp2_with fail
  refine (HL.out _ hL1.out).mono ?_
  rintro _ w2 ⟨rfl, hb2⟩
  clear cA0 cA1
  have hGA2 := hidS (blk_later hGA1.out hb2)
  have hGR2 := hidS (blk_later hGR1.out hb2)
  have hL2 := hidS (hL1.out.trans (hb2.mono hL1.out.size))
  clear hb2 hL1 hGA1 hGR1
  have lv := HCL.out _ hL2.out
  have cA0 := blk_cell hGA2.out 0
  have cA1 := blk_cell hGA2.out 1
  simp at cA0 cA1
  go_wp2_with fail
  refine (HIX.out _ hL2.out).mono ?_
  rintro _ w3 ⟨rfl, hb3⟩
  clear lv cA0 cA1
  have hGA3 := hidS (blk_later hGA2.out hb3)
  have hGR3 := hidS (blk_later hGR2.out hb3)
  have hL3 := hidS (hL2.out.trans (hb3.mono hL2.out.size))
  clear hb3 hL2 hGA2 hGR2
  obtain ⟨lS, c0, c1, c2, c3⟩ := HSL.out _ hL3.out
  have cA0 := blk_cell hGA3.out 0
  have cA1 := blk_cell hGA3.out 1
  simp at cA0 cA1
  go_wp2_with fail
  refine (HCP.out _ hL3.out).mono ?_
  intro e w4 hans
  obtain ⟨b2, o2, cS2, b3, o3, cH2, rfl, p1, q1, hne, p3, q3, hb4⟩ := hans.rows n1 n3
  have hGA4 := hidS (blk_later hGA3.out hb4)
  have hGR4 := hidS (blk_later hGR3.out hb4)
  have hL4 := hidS (hL3.out.trans (hb4.mono hL3.out.size))
  have lR0 := blk_lt hGR3.out
  clear hans hGA3 hGR3 hL3 hb4 HCP c0 c1 c2 c3 cA0 cA1 lS
  have P5 := hidS (p3.later ((Below.refl w4.heap.size w4).alloc (Nat.le_refl _) (.cells #[.slice (some ⟨b2, o2, none⟩) s.slots.length cS2, .slice (some ⟨b3, o3, none⟩) s.heads.length cH2] 26)))
  have Q5 := hidS (q3.later ((Below.refl w4.heap.size w4).alloc (Nat.le_refl _) (.cells #[.slice (some ⟨b2, o2, none⟩) s.slots.length cS2, .slice (some ⟨b3, o3, none⟩) s.heads.length cH2] 26)))
  have lb2 := p3.lt
  have lb3 := q3.lt
  clear p3 q3
  go_upto_region 9 with fail
  have hGO5 := hidS (heap_newG w4 (.cells #[.slice (some ⟨b2, o2, none⟩) s.slots.length cS2, .slice (some ⟨b3, o3, none⟩) s.heads.length cH2] 26))
  have nO := blk_lt hGR4.out
  have hGA5 := hidS (blk_alloc hGA4.out (.cells #[.slice (some ⟨b2, o2, none⟩) s.slots.length cS2, .slice (some ⟨b3, o3, none⟩) s.heads.length cH2] 26))
  have hGR5 := hidS (blk_alloc hGR4.out (.cells #[.slice (some ⟨b2, o2, none⟩) s.slots.length cS2, .slice (some ⟨b3, o3, none⟩) s.heads.length cH2] 26))
  have hL5 := hidS (hL4.out.alloc hL4.out.size (.cells #[.slice (some ⟨b2, o2, none⟩) s.slots.length cS2, .slice (some ⟨b3, o3, none⟩) s.heads.length cH2] 26))
  clear hL4 hGA4 hGR4
  generalize w4.alloc (.cells #[.slice (some ⟨b2, o2, none⟩) s.slots.length cS2, .slice (some ⟨b3, o3, none⟩) s.heads.length cH2] 26) = w5 at P5 Q5 hGA5 hGR5 hGO5 hL5 ⊢
  have z0 : w.heap.size + 1 < b2 ∧ w.heap.size + 1 < b3 := by omega
  have lO := blk_lt hGO5.out
  go_wp2_with fail
  refine grow_guarded 7 [.is (.pointer (some ⟨w4.heap.size, 1, none⟩)), .is (.slice (some ⟨b3, o3, none⟩) s.heads.length cH2), .is (.agg #[.slice (some ⟨bS, oS, none⟩) s.slots.length cS, .slice (some ⟨bH, oH, none⟩) s.heads.length cH]), .is (.int .i64 key), .is (.int .i64 (c : Int)), .is (.pointer (some ⟨b3, o3 + c, none⟩)), .is (.pointer (some ⟨b3, o3 + c, none⟩))] rfl (by kernel_rfl) (by kernel_rfl) ?steps9 ?fin9
  case steps9 =>
    refine ⟨?_, ?_, ?_, ?_, ?_, ?_, ?_, trivial⟩
    · refine stepW_of_u ⟨rfl, fun v W ρ hC kc kf ks ki kd => ?_⟩
      have t6 : ρ (.tmp 6) = .pointer (some ⟨w4.heap.size, 0, none⟩) := ki 6 (by decide)
      simp [execOp, go_sem, kc, t6]
      exact ⟨hC, Below.refl _ _, rfl⟩
    · refine stepW_of_u ⟨rfl, fun v W ρ hC kc kf ks ki kd => ?_⟩
      have d0 : v 0 = .pointer (some ⟨w4.heap.size, 1, none⟩) := (kdj kd 0 rfl :)
      have t41 : ρ (.tmp 41) = .pointer (some ⟨w4.heap.size, 1, none⟩) := (ks 0 41 (by decide) rfl).trans d0
      have hg := blk_later hGO5.out hC
      have c1 := blk_cell hg 1
      simp at c1
      simp [execOp, go_sem, kc, t41, c1]
      exact ⟨hC, Below.refl _ _, rfl⟩
    · refine stepW_of_u ⟨rfl, fun v W ρ hC kc kf ks ki kd => ?_⟩
      have t2 : ρ (.tmp 2) = .pointer (some ⟨w.heap.size, 0, none⟩) := ki 2 (by decide)
      have hg := blk_later hGA5.out hC
      have c0 := blk_cell hg 0
      have c1 := blk_cell hg 1
      simp at c0 c1
      simp [execOp, go_sem, kc, t2, c0, c1]
      exact ⟨hC, Below.refl _ _, rfl⟩
    · refine stepW_of_u ⟨rfl, fun v W ρ hC kc kf ks ki kd => ?_⟩
      have t1 : ρ (.tmp 1) = .int .i64 key := ki 1 (by decide)
      simp [execOp, go_sem, kc, t1]
      exact ⟨hC, Below.refl _ _, rfl⟩
    · refine stepW_of_u ⟨rfl, fun v W ρ hC kc kf ks ki kd => ?_⟩
      have d2 : v 2 = .agg #[.slice (some ⟨bS, oS, none⟩) s.slots.length cS, .slice (some ⟨bH, oH, none⟩) s.heads.length cH] := (kdj kd 2 rfl :)
      have t43 : ρ (.tmp 43) = .agg #[.slice (some ⟨bS, oS, none⟩) s.slots.length cS, .slice (some ⟨bH, oH, none⟩) s.heads.length cH] := (ks 2 43 (by decide) rfl).trans d2
      have d3 : v 3 = .int .i64 key := (kdj kd 3 rfl :)
      have t44 : ρ (.tmp 44) = .int .i64 key := (ks 3 44 (by decide) rfl).trans d3
      simp [execOp, go_sem, t43, t44, kf]
      exact Calls.mono (HCF.out W) (fun e x h => ⟨_, h.1, hC.trans (h.2.mono hC.size), h.2, rfl⟩)
    · refine stepW_of_u ⟨rfl, fun v W ρ hC kc kf ks ki kd => ?_⟩
      have d1 : v 1 = .slice (some ⟨b3, o3, none⟩) s.heads.length cH2 := (kdj kd 1 rfl :)
      have t42 : ρ (.tmp 42) = .slice (some ⟨b3, o3, none⟩) s.heads.length cH2 := (ks 1 42 (by decide) rfl).trans d1
      have d4 : v 4 = .int .i64 (c : Int) := (kdj kd 4 rfl :)
      have t45 : ρ (.tmp 45) = .int .i64 (c : Int) := (ks 4 45 (by decide) rfl).trans d4
      simp [execOp, go_sem, kc, t42, t45, hcc]
      exact ⟨hC, Below.refl _ _, rfl⟩
    · refine stepW_of_u ⟨rfl, fun v W ρ hC kc kf ks ki kd => ?_⟩
      have d5 : v 5 = .pointer (some ⟨b3, o3 + c, none⟩) := (kdj kd 5 rfl :)
      have t46 : ρ (.tmp 46) = .pointer (some ⟨b3, o3 + c, none⟩) := (ks 5 46 (by decide) rfl).trans d5
      simp [execOp, go_sem, kc, t46]
      exact ⟨hC, Below.refl _ _, rfl⟩
  intro v9 W9 hb9 hall
  have hv9 : v9 6 = .pointer (some ⟨b3, o3 + c, none⟩) := hall 6 (by decide)
  simp [upto, Act.put]
  rw [hv9]
  clear hall hv9
  have P6 := hidS (P5.out.later hb9)
  have Q6 := hidS (Q5.out.later hb9)
  have hGA6 := hidS (blk_later hGA5.out hb9)
  have hGR6 := hidS (blk_later hGR5.out hb9)
  have hGO6 := hidS (blk_later hGO5.out hb9)
  have hL6 := hidS (hL5.out.trans (hb9.mono hL5.out.size))
  clear hb9 P5 Q5 hGA5 hGR5 hGO5 hL5 HCF
  generalize W9 = w6 at P6 Q6 hGA6 hGR6 hGO6 hL6 ⊢
  have cA0 := blk_cell hGA6.out 0
  have cO0 := blk_cell hGO6.out 0
  simp at cA0 cO0
  obtain ⟨lS, c0, c1, c2, c3⟩ := HSL.out _ hL6.out
  obtain ⟨bH', oH', eS, lH, ch⟩ := Q6.out.read c hcl
  injection eS with eS; injection eS with eS1 eS2
  subst eS1 eS2
  rw [HH.out] at ch
  obtain ⟨b2', o2', eS, _, d0, d1, d2, d3⟩ := P6.out.read.slot hfull
  injection eS with eS; injection eS with eS1 eS2
  subst eS1 eS2
  have f0 := (rowB_cells P6.out (4 * k) (by rw [flat_len]; omega)).2
  have f1 := (rowB_cells P6.out (4 * k + 1) (by rw [flat_len]; omega)).2
  have f2 := (rowB_cells P6.out (4 * k + 2) (by rw [flat_len]; omega)).2
  have f3 := (rowB_cells P6.out (4 * k + 3) (by rw [flat_len]; omega)).2
  rw [show o2 + 4 * k = o2 + k * 4 by omega] at f0
  rw [show o2 + (4 * k + 1) = o2 + k * 4 + 1 by omega] at f1
  rw [show o2 + (4 * k + 2) = o2 + k * 4 + 2 by omega] at f2
  rw [show o2 + (4 * k + 3) = o2 + k * 4 + 3 by omega] at f3
  clear HS HK HL HIX
  go_wp2_with fail
  go_region
  have P7 : Hid (RowB b2 o2 (flat (s.slots.set k ⟨key, x.gen + 1, 1, h⟩)) (((((w6.setCell ⟨b2, o2 + k * 4, none⟩ (.int .i64 key)).setCell ⟨b2, o2 + k * 4 + 1, none⟩ (.int .i64 (x.gen + 1))).setCell ⟨b2, o2 + k * 4 + 2, none⟩ (.int .i64 1)).setCell ⟨b2, o2 + k * 4 + 3, none⟩ (.int .i64 h)).drew)) := by
    have h' := (((P6.out.set (4 * k) key (by rw [flat_len]; omega)).set (4 * k + 1) (x.gen + 1) (by simp [flat_len]; omega)).set (4 * k + 2) 1 (by simp [flat_len]; omega)).set (4 * k + 3) h (by simp [flat_len]; omega)
    have e := flat_set s.slots k ⟨key, x.gen + 1, 1, h⟩ hfull
    simp only at e
    rw [e, show o2 + 4 * k = o2 + k * 4 by omega, show o2 + (4 * k + 1) = o2 + k * 4 + 1 by omega, show o2 + (4 * k + 2) = o2 + k * 4 + 2 by omega, show o2 + (4 * k + 3) = o2 + k * 4 + 3 by omega] at h'
    exact h'
  have Q7 : Hid (RowB b3 o3 s.heads (((((w6.setCell ⟨b2, o2 + k * 4, none⟩ (.int .i64 key)).setCell ⟨b2, o2 + k * 4 + 1, none⟩ (.int .i64 (x.gen + 1))).setCell ⟨b2, o2 + k * 4 + 2, none⟩ (.int .i64 1)).setCell ⟨b2, o2 + k * 4 + 3, none⟩ (.int .i64 h)).drew)) := hidS (RowB.other (g := b2) (k := o2 + k * 4 + 3) (v := .int .i64 h) (RowB.other (g := b2) (k := o2 + k * 4 + 2) (v := .int .i64 1) (RowB.other (g := b2) (k := o2 + k * 4 + 1) (v := .int .i64 (x.gen + 1)) (RowB.other (g := b2) (k := o2 + k * 4) (v := .int .i64 key) Q6.out (fun e => hne e.symm)) (fun e => hne e.symm)) (fun e => hne e.symm)) (fun e => hne e.symm))
  have hGR7 : Hid ((((((w6.setCell ⟨b2, o2 + k * 4, none⟩ (.int .i64 key)).setCell ⟨b2, o2 + k * 4 + 1, none⟩ (.int .i64 (x.gen + 1))).setCell ⟨b2, o2 + k * 4 + 2, none⟩ (.int .i64 1)).setCell ⟨b2, o2 + k * 4 + 3, none⟩ (.int .i64 h)).drew).heap[w.heap.size + 1]? = some (.cells #[.slice none 0 0, .slice none 0 0, .int .i64 0, .int .i64 0] 47)) := hidS (blk_other (B := b2) (blk_other (B := b2) (blk_other (B := b2) (blk_other (B := b2) hGR6.out (by omega) (o2 + k * 4) (.int .i64 key)) (by omega) (o2 + k * 4 + 1) (.int .i64 (x.gen + 1))) (by omega) (o2 + k * 4 + 2) (.int .i64 1)) (by omega) (o2 + k * 4 + 3) (.int .i64 h))
  have hGO7 : Hid ((((((w6.setCell ⟨b2, o2 + k * 4, none⟩ (.int .i64 key)).setCell ⟨b2, o2 + k * 4 + 1, none⟩ (.int .i64 (x.gen + 1))).setCell ⟨b2, o2 + k * 4 + 2, none⟩ (.int .i64 1)).setCell ⟨b2, o2 + k * 4 + 3, none⟩ (.int .i64 h)).drew).heap[w4.heap.size]? = some (.cells #[.slice (some ⟨b2, o2, none⟩) s.slots.length cS2, .slice (some ⟨b3, o3, none⟩) s.heads.length cH2] 26)) := hidS (blk_other (B := b2) (blk_other (B := b2) (blk_other (B := b2) (blk_other (B := b2) hGO6.out (by omega) (o2 + k * 4) (.int .i64 key)) (by omega) (o2 + k * 4 + 1) (.int .i64 (x.gen + 1))) (by omega) (o2 + k * 4 + 2) (.int .i64 1)) (by omega) (o2 + k * 4 + 3) (.int .i64 h))
  have hL7 : Hid (Below w.heap.size w (((((w6.setCell ⟨b2, o2 + k * 4, none⟩ (.int .i64 key)).setCell ⟨b2, o2 + k * 4 + 1, none⟩ (.int .i64 (x.gen + 1))).setCell ⟨b2, o2 + k * 4 + 2, none⟩ (.int .i64 1)).setCell ⟨b2, o2 + k * 4 + 3, none⟩ (.int .i64 h)).drew)) := hidS (below_at (k := o2 + k * 4 + 3) (b := b2) (v := .int .i64 h) (below_at (k := o2 + k * 4 + 2) (b := b2) (v := .int .i64 1) (below_at (k := o2 + k * 4 + 1) (b := b2) (v := .int .i64 (x.gen + 1)) (below_at (k := o2 + k * 4) (b := b2) (v := .int .i64 key) hL6.out (by omega)) (by omega)) (by omega)) (by omega)).drew
  clear P6 Q6 hGA6 hGR6 hGO6 hL6 cA0 cO0 c0 c1 c2 c3 d0 d1 d2 d3 f0 f1 f2 f3 lS lH ch
  generalize ((((w6.setCell ⟨b2, o2 + k * 4, none⟩ (.int .i64 key)).setCell ⟨b2, o2 + k * 4 + 1, none⟩ (.int .i64 (x.gen + 1))).setCell ⟨b2, o2 + k * 4 + 2, none⟩ (.int .i64 1)).setCell ⟨b2, o2 + k * 4 + 3, none⟩ (.int .i64 h)).drew = w7 at P7 Q7 hGR7 hGO7 hL7 ⊢
  obtain ⟨z, y0⟩ := (rowB_cells Q7.out c hcl).1
  have f0 := (rowB_cells Q7.out c hcl).2
  go_upto_region 12 with fail
  have P8 := hidS (RowB.other (g := b3) (k := o3 + c) (v := .int .i64 (k : Int)) P7.out hne)
  have Q8 := hidS (Q7.out.set c (k : Int) hcl)
  have hGR8 := hidS (blk_other (B := b3) hGR7.out (by omega) (o3 + c) (.int .i64 (k : Int)))
  have hGO8 := hidS (blk_other (B := b3) hGO7.out (by omega) (o3 + c) (.int .i64 (k : Int)))
  have hL8 := hidS (below_at (k := o3 + c) (b := b3) (v := .int .i64 (k : Int)) hL7.out (by omega))
  clear P7 Q7 hGR7 hGO7 hL7 y0 f0
  generalize w7.setCell ⟨b3, o3 + c, none⟩ (.int .i64 (k : Int)) = w8 at P8 Q8 hGR8 hGO8 hL8 ⊢
  have cO0 := blk_cell hGO8.out 0
  have cO1 := blk_cell hGO8.out 1
  simp at cO0 cO1
  have kR := blk_cell hGR8.out
  have fR := blk_free hGR8.out
  go_wp2_with fail
  refine bodyPost_ret (v := .agg #[.slice (some ⟨b2, o2, none⟩) s.slots.length cS2, .slice (some ⟨b3, o3, none⟩) s.heads.length cH2, .int .i64 (k : Int), .int .i64 0]) (by simp [results, Try.results24, go_sem, *]) rfl ?_
  refine ⟨some ⟨b2, o2, none⟩, cS2, some ⟨b3, o3, none⟩, cH2, by simp, rows_own (by omega) (by omega) hne ?_ ?_, ?_⟩
  · repeat (refine RowB.other ?_ (by omega))
    exact P8.out
  · repeat (refine RowB.other ?_ (by omega))
    exact Q8.out
  · repeat (refine below_at ?_ (by omega))
    exact hL8.out
end Go.Proofs.Ytfjgofmjhccdkaa
