/- Proved here: impl.SlabCut answers the slab with a key cut, in memory of its own, or a code; all old memory stays (conditions: the slab's rows can be read; at most 2^20 numbers; numbers of int64). -/
import Derived.Test.YtfjgofmjhccdkaaAll13
namespace Go.Proofs.Ytfjgofmjhccdkaa
open Go.ChangeShapes Go.WideShapes Go.ChangeAt Go.RowKit
set_option linter.unusedVariables false
set_option linter.unusedSimpArgs false
set_option maxRecDepth 100000

set_option maxHeartbeats 8000000 in
theorem implSlabCut_any (aS aH : Option Addr) (cS cH : Nat) (s : Slb) (key : Int) (w : World) (hR : SlabZ aS aH s w) (hF : SlabFit s) (h1 : s.slots.length ≤ 1048576) (h2 : s.heads.length ≤ 1048576) :
    Calls Try.prog 27 #[.agg #[.slice aS s.slots.length cS, .slice aH s.heads.length cH], .int .i64 key] w fun e w' => OutAns (cutS s key) (cutA s key) (cutC s key) w e w' := by
  have HS := hidS (fun W (h : Below w.heap.size w W) => implSlabRight_any aS aH cS cH s W (hR.later h) hF h1 h2)
  have HK := hidS (fun W => implIsKey_any key W)
  have ILL : Hid (∀ q : Int, q ≠ 0 → cutC s key = q → ∀ e w', e = .returned (.agg #[.slice none 0 0, .slice none 0 0, .int .i64 0, .int .i64 q]) ∧ Below w.heap.size w w' → OutAns (cutS s key) (cutA s key) (cutC s key) w e w') := by
    refine hidS (fun q hq hc e w' h => ?_)
    obtain ⟨e1, e2⟩ := cut_ill hc hq
    rw [e1, e2, hc]
    exact ill_out h
  cases hr : rightSl s
  · have EC : cutC s key = 1 := by unfold cutC; rw [hr]; rfl
    refine Calls.mono (R := fun e w' => e = .returned (.agg #[.slice none 0 0, .slice none 0 0, .int .i64 0, .int .i64 1]) ∧ Below w.heap.size w w') ?_ (ILL.out 1 (by decide) EC)
    rw [hr] at HS
    clear hr hR ILL EC
    have hGA0 : Hid (((w.alloc (.cells #[.slice aS s.slots.length cS, .slice aH s.heads.length cH] 26)).alloc (.cells #[.slice none 0 0, .slice none 0 0, .int .i64 0, .int .i64 0] 47)).heap[w.heap.size]? = some (.cells #[.slice aS s.slots.length cS, .slice aH s.heads.length cH] 26)) := by
      show _ = _
      have := blk_alloc (heap_newG w (.cells #[.slice aS s.slots.length cS, .slice aH s.heads.length cH] 26)) (.cells #[.slice none 0 0, .slice none 0 0, .int .i64 0, .int .i64 0] 47)
      simpa using this
    have hGR0 : Hid (((w.alloc (.cells #[.slice aS s.slots.length cS, .slice aH s.heads.length cH] 26)).alloc (.cells #[.slice none 0 0, .slice none 0 0, .int .i64 0, .int .i64 0] 47)).heap[w.heap.size + 1]? = some (.cells #[.slice none 0 0, .slice none 0 0, .int .i64 0, .int .i64 0] 47)) := by
      show _ = _
      have := heap_newG (w.alloc (.cells #[.slice aS s.slots.length cS, .slice aH s.heads.length cH] 26)) (.cells #[.slice none 0 0, .slice none 0 0, .int .i64 0, .int .i64 0] 47)
      simpa using this
    have hL0 := hidS (((Below.refl w.heap.size w).alloc (Nat.le_refl _) (.cells #[.slice aS s.slots.length cS, .slice aH s.heads.length cH] 26)).alloc (by simp) (.cells #[.slice none 0 0, .slice none 0 0, .int .i64 0, .int .i64 0] 47))
    go_enter Try.func27, Try.ntmps27
    go_wp2_with fail
    refine (HS.out _ hL0.out).mono ?_
    rintro _ w1 ⟨rfl, hb1⟩
    have hGA1 := hidS (blk_later hGA0.out hb1)
    have hGR1 := hidS (blk_later hGR0.out hb1)
    have hL1 := hidS (hL0.out.trans (hb1.mono hL0.out.size))
    clear hb1 hL0 hGA0 hGR0
    have cA0 := blk_cell hGA1.out 0
    have cA1 := blk_cell hGA1.out 1
    simp at cA0 cA1
    have kR := blk_cell hGR1.out
    have fR := blk_free hGR1.out
    go_wp2_with fail
    refine bodyPost_ret (v := .agg #[.slice none 0 0, .slice none 0 0, .int .i64 0, .int .i64 1]) (by simp [results, Try.results27, go_sem, *]) rfl ⟨rfl, ?_⟩
    repeat (refine below_at ?_ (by omega))
    exact hL1.out
  rw [hr] at HS
  cases hk : keyB key
  · have EC : cutC s key = 1 := by unfold cutC; rw [hr, hk]; rfl
    refine Calls.mono (R := fun e w' => e = .returned (.agg #[.slice none 0 0, .slice none 0 0, .int .i64 0, .int .i64 1]) ∧ Below w.heap.size w w') ?_ (ILL.out 1 (by decide) EC)
    rw [hk] at HK
    clear hr hR ILL EC hk
    have hGA0 : Hid (((w.alloc (.cells #[.slice aS s.slots.length cS, .slice aH s.heads.length cH] 26)).alloc (.cells #[.slice none 0 0, .slice none 0 0, .int .i64 0, .int .i64 0] 47)).heap[w.heap.size]? = some (.cells #[.slice aS s.slots.length cS, .slice aH s.heads.length cH] 26)) := by
      show _ = _
      have := blk_alloc (heap_newG w (.cells #[.slice aS s.slots.length cS, .slice aH s.heads.length cH] 26)) (.cells #[.slice none 0 0, .slice none 0 0, .int .i64 0, .int .i64 0] 47)
      simpa using this
    have hGR0 : Hid (((w.alloc (.cells #[.slice aS s.slots.length cS, .slice aH s.heads.length cH] 26)).alloc (.cells #[.slice none 0 0, .slice none 0 0, .int .i64 0, .int .i64 0] 47)).heap[w.heap.size + 1]? = some (.cells #[.slice none 0 0, .slice none 0 0, .int .i64 0, .int .i64 0] 47)) := by
      show _ = _
      have := heap_newG (w.alloc (.cells #[.slice aS s.slots.length cS, .slice aH s.heads.length cH] 26)) (.cells #[.slice none 0 0, .slice none 0 0, .int .i64 0, .int .i64 0] 47)
      simpa using this
    have hL0 := hidS (((Below.refl w.heap.size w).alloc (Nat.le_refl _) (.cells #[.slice aS s.slots.length cS, .slice aH s.heads.length cH] 26)).alloc (by simp) (.cells #[.slice none 0 0, .slice none 0 0, .int .i64 0, .int .i64 0] 47))
    go_enter Try.func27, Try.ntmps27
    go_wp2_with fail
    refine (HS.out _ hL0.out).mono ?_
    rintro _ w1 ⟨rfl, hb1⟩
    have hGA1 := hidS (blk_later hGA0.out hb1)
    have hGR1 := hidS (blk_later hGR0.out hb1)
    have hL1 := hidS (hL0.out.trans (hb1.mono hL0.out.size))
    clear hb1 hL0 hGA0 hGR0
    have cA0 := blk_cell hGA1.out 0
    have cA1 := blk_cell hGA1.out 1
    simp at cA0 cA1
    go_wp2_with fail
    refine (HK.out _).mono ?_
    rintro _ v ⟨rfl, hv⟩
    rw [hv]
    clear hv v
    have kR := blk_cell hGR1.out
    have fR := blk_free hGR1.out
    go_wp2_with fail
    refine bodyPost_ret (v := .agg #[.slice none 0 0, .slice none 0 0, .int .i64 0, .int .i64 1]) (by simp [results, Try.results27, go_sem, *]) rfl ⟨rfl, ?_⟩
    repeat (refine below_at ?_ (by omega))
    exact hL1.out
  rw [hk] at HK
  have EOK : (rightSl s && keyB key) = true := by rw [hr, hk]; rfl
  obtain ⟨hLe, n1, n2, n3, n4⟩ := right_leads hr
  obtain ⟨k0, k1⟩ : 0 ≤ key ∧ key ≤ 999 := by unfold keyB at hk; simp at hk; exact hk
  obtain ⟨bS, oS, rfl, _⟩ := hR.slots.slot (i := 0) (by omega)
  obtain ⟨bH, oH, rfl, _⟩ := hR.heads 0 (by omega)
  have HCP := hidS (fun W (h : Below w.heap.size w W) => copySlab_any bS oS bH oH cS cH s W (hR.later h) n1 n2 n3 n4)
  have HL := hidS (fun (b2 o2 b3 o3 cS2 cH2 : Nat) W (h : SlabZ (some ⟨b2, o2, none⟩) (some ⟨b3, o3, none⟩) s W) => linkTo_any b2 o2 b3 o3 cS2 cH2 s key W h hr k0 k1)
  obtain ⟨hok, hfi⟩ := link_find (key := key) hr k0
  obtain ⟨hcl, hce⟩ := chN_lt (s := s) k0 n3
  have HCL : Hid (∀ (b2 o2 b3 o3 : Nat) W, SlabZ (some ⟨b2, o2, none⟩) (some ⟨b3, o3, none⟩) s W → W.cell? ⟨(adrL b2 o2 b3 o3 (chN s key) (linkP s key)).1, (adrL b2 o2 b3 o3 (chN s key) (linkP s key)).2, none⟩ = some (.int .i64 (linkN s key))) := hidS (fun b2 o2 b3 o3 W h => (link_cell h hcl hok).2)
  have HFI := hidS hfi
  have HOK := hidS hok
  have HR0 := hidS hr
  clear hfi hR hLe hce hok hr hk
  generalize linkN s key = v at HFI HCL
  have hGA0 : Hid (((w.alloc (.cells #[.slice (some ⟨bS, oS, none⟩) s.slots.length cS, .slice (some ⟨bH, oH, none⟩) s.heads.length cH] 26)).alloc (.cells #[.slice none 0 0, .slice none 0 0, .int .i64 0, .int .i64 0] 47)).heap[w.heap.size]? = some (.cells #[.slice (some ⟨bS, oS, none⟩) s.slots.length cS, .slice (some ⟨bH, oH, none⟩) s.heads.length cH] 26)) := by
    show _ = _
    have := blk_alloc (heap_newG w (.cells #[.slice (some ⟨bS, oS, none⟩) s.slots.length cS, .slice (some ⟨bH, oH, none⟩) s.heads.length cH] 26)) (.cells #[.slice none 0 0, .slice none 0 0, .int .i64 0, .int .i64 0] 47)
    simpa using this
  have hGR0 : Hid (((w.alloc (.cells #[.slice (some ⟨bS, oS, none⟩) s.slots.length cS, .slice (some ⟨bH, oH, none⟩) s.heads.length cH] 26)).alloc (.cells #[.slice none 0 0, .slice none 0 0, .int .i64 0, .int .i64 0] 47)).heap[w.heap.size + 1]? = some (.cells #[.slice none 0 0, .slice none 0 0, .int .i64 0, .int .i64 0] 47)) := by
    show _ = _
    have := heap_newG (w.alloc (.cells #[.slice (some ⟨bS, oS, none⟩) s.slots.length cS, .slice (some ⟨bH, oH, none⟩) s.heads.length cH] 26)) (.cells #[.slice none 0 0, .slice none 0 0, .int .i64 0, .int .i64 0] 47)
    simpa using this
  have hL0 := hidS (((Below.refl w.heap.size w).alloc (Nat.le_refl _) (.cells #[.slice (some ⟨bS, oS, none⟩) s.slots.length cS, .slice (some ⟨bH, oH, none⟩) s.heads.length cH] 26)).alloc (by simp) (.cells #[.slice none 0 0, .slice none 0 0, .int .i64 0, .int .i64 0] 47))
  go_enter Try.func27, Try.ntmps27
  go_wp2_with fail
  refine (HS.out _ hL0.out).mono ?_
  rintro _ w1 ⟨rfl, hb1⟩
  have hGA1 := hidS (blk_later hGA0.out hb1)
  have hGR1 := hidS (blk_later hGR0.out hb1)
  have hL1 := hidS (hL0.out.trans (hb1.mono hL0.out.size))
  clear hb1 hL0 hGA0 hGR0
  have cA0 := blk_cell hGA1.out 0
  have cA1 := blk_cell hGA1.out 1
  simp at cA0 cA1
  go_wp2_with fail
  refine (HK.out _).mono ?_
  rintro _ v ⟨rfl, hv⟩
  rw [hv]
  clear hv v
  go_wp2_with fail
  refine (HCP.out _ hL1.out).mono ?_
  intro e w2 hans
  obtain ⟨b2, o2, cS2, b3, o3, cH2, rfl, p1, q1, hne, p3, q3, hb2⟩ := hans.rows n1 n3
  have hGA2 := hidS (blk_later hGA1.out hb2)
  have hGR2 := hidS (blk_later hGR1.out hb2)
  have hL2 := hidS (hL1.out.trans (hb2.mono hL1.out.size))
  have lR0 := blk_lt hGR1.out
  clear hans hGA1 hGR1 hL1 hb2 HCP cA0 cA1
  have P3 := hidS (p3.later ((Below.refl w2.heap.size w2).alloc (Nat.le_refl _) (.cells #[.slice (some ⟨b2, o2, none⟩) s.slots.length cS2, .slice (some ⟨b3, o3, none⟩) s.heads.length cH2] 26)))
  have Q3 := hidS (q3.later ((Below.refl w2.heap.size w2).alloc (Nat.le_refl _) (.cells #[.slice (some ⟨b2, o2, none⟩) s.slots.length cS2, .slice (some ⟨b3, o3, none⟩) s.heads.length cH2] 26)))
  have lb2 := p3.lt
  have lb3 := q3.lt
  clear p3 q3
  go_upto_region 4 with fail
  have hGO3 := hidS (heap_newG w2 (.cells #[.slice (some ⟨b2, o2, none⟩) s.slots.length cS2, .slice (some ⟨b3, o3, none⟩) s.heads.length cH2] 26))
  have nO := blk_lt hGR2.out
  have hGA3 := hidS (blk_alloc hGA2.out (.cells #[.slice (some ⟨b2, o2, none⟩) s.slots.length cS2, .slice (some ⟨b3, o3, none⟩) s.heads.length cH2] 26))
  have hGR3 := hidS (blk_alloc hGR2.out (.cells #[.slice (some ⟨b2, o2, none⟩) s.slots.length cS2, .slice (some ⟨b3, o3, none⟩) s.heads.length cH2] 26))
  have hL3 := hidS (hL2.out.alloc hL2.out.size (.cells #[.slice (some ⟨b2, o2, none⟩) s.slots.length cS2, .slice (some ⟨b3, o3, none⟩) s.heads.length cH2] 26))
  clear hL2 hGA2 hGR2
  generalize w2.alloc (.cells #[.slice (some ⟨b2, o2, none⟩) s.slots.length cS2, .slice (some ⟨b3, o3, none⟩) s.heads.length cH2] 26) = w3 at P3 Q3 hGA3 hGR3 hGO3 hL3 ⊢
  have z0 : w.heap.size + 1 < b2 ∧ w.heap.size + 1 < b3 := by omega
  have lO := blk_lt hGO3.out
  have cO0 := blk_cell hGO3.out 0
  have cO1 := blk_cell hGO3.out 1
  simp at cO0 cO1
  go_wp2_with fail
  refine (HL.out b2 o2 b3 o3 cS2 cH2 _ ⟨P3.out.read, Q3.out.read⟩).mono ?_
  rintro _ w4 ⟨rfl, hb4⟩
  have P4 := hidS (P3.out.later hb4)
  have Q4 := hidS (Q3.out.later hb4)
  have hGR4 := hidS (blk_later hGR3.out hb4)
  have hGO4 := hidS (blk_later hGO3.out hb4)
  have hL4 := hidS (hL3.out.trans (hb4.mono hL3.out.size))
  clear hb4 P3 Q3 hGA3 hGR3 hGO3 hL3 cO0 cO1 HL HS HK
  have lv := HCL.out b2 o2 b3 o3 _ ⟨P4.out.read, Q4.out.read⟩
  have lf := link_own P4.out Q4.out hcl HOK.out
  have lst := fun (nv : Int) => link_store P4.out Q4.out hne hcl nv HOK.out
  have ladr : (adrL b2 o2 b3 o3 (chN s key) (linkP s key)).1 = b2 ∨ (adrL b2 o2 b3 o3 (chN s key) (linkP s key)).1 = b3 := adr_in
  have HST := hidS lst
  clear lst
  generalize (adrL b2 o2 b3 o3 (chN s key) (linkP s key)).1 = B at lv lf ladr HST ⊢
  generalize (adrL b2 o2 b3 o3 (chN s key) (linkP s key)).2 = O at lv lf HST ⊢
  by_cases hf : findSl s key < 0
  · have EC : cutC s key = 6 := by unfold cutC; rw [if_pos EOK, if_pos hf]
    have hv : v < 0 := by rcases HFI.out with ⟨e1, e2⟩ | ⟨e1, e2, e3⟩ <;> omega
    have kR := blk_cell hGR4.out
    have fR := blk_free hGR4.out
    have HADR := hidS ladr
    clear ladr hf
    go_wp2_with fail
    refine bodyPost_ret (v := .agg #[.slice none 0 0, .slice none 0 0, .int .i64 0, .int .i64 6]) (by simp [results, Try.results27, go_sem, *]) rfl ?_
    refine ILL.out 6 (by decide) EC _ _ ⟨rfl, ?_⟩
    repeat (refine below_at ?_ (by omega))
    exact hL4.out
  have EC : cutC s key = 0 := by unfold cutC; rw [if_pos EOK, if_neg hf]
  obtain ⟨n, hn, hnl, hvn⟩ : ∃ n : Nat, findSl s key = (n : Int) ∧ n < s.slots.length ∧ v = (n : Int) := by
    rcases HFI.out with ⟨e1, e2⟩ | ⟨e1, e2, e3⟩
    · omega
    · exact ⟨(findSl s key).toNat, by omega, by omega, by omega⟩
  subst hvn
  have ES : Hid (cutS s key = refS (setLink s (chN s key) (nx s (n : Int)) (linkP s key)) (n : Int) ((slotN s (n : Int)).refs - 1)) := by show _ = _; unfold cutS; rw [EC, if_pos rfl]; unfold cutIn; rw [hn]
  have EA : Hid (cutA s key = (n : Int)) := by show _ = _; unfold cutA; rw [EC, if_pos rfl, hn]
  have HEC := hidS EC
  have HLEN : Hid ((cutS s key).slots.length = s.slots.length ∧ (cutS s key).heads.length = s.heads.length) := by show _ ∧ _; rw [ES.out]; simp [refS, setLink_len]
  have hnn : (0 : Int) ≤ (n : Int) ∧ (n : Int) < (s.slots.length : Int) := by omega
  have hn0 : ¬ (n : Int) < 0 := by omega
  obtain ⟨x, hx⟩ : ∃ x, s.slots.getD n zeroSlt = x := ⟨_, rfl⟩
  have hx0 := refs_nat HR0.out hnl
  rw [hx] at hx0
  obtain ⟨hx0, hx1⟩ := hx0
  have HNX : Hid (nx s (n : Int) = x.next) := by show _ = _; unfold nx; rw [Int.toNat_natCast, hx]
  have HSN : Hid (slotN s (n : Int) = x) := by show _ = _; rw [slot_nat]; exact hx
  have HTR : Hid (((setLink s (chN s key) x.next (linkP s key)).slots.getD n zeroSlt).refs = x.refs) := by show _ = _; rw [setLink_refs n HOK.out, hx]
  obtain ⟨b2', o2', eS, _, d0, d1, d2, d3⟩ := P4.out.read.slot hnl
  injection eS with eS; injection eS with eS1 eS2
  subst eS1 eS2
  rw [hx] at d3
  clear d0 d1 d2
  obtain ⟨P5, Q5⟩ := HST.out x.next
  have HP5 := hidS P5
  have HQ5 := hidS Q5
  have cO0 := blk_cell hGO4.out 0
  simp at cO0
  have hBw : w.heap.size + 1 < B ∧ B ≠ w2.heap.size := by omega
  have hGR5 := hidS (blk_other (B := B) hGR4.out (by omega) O (.int .i64 x.next))
  have hGO5 := hidS (blk_other (B := B) hGO4.out (by omega) O (.int .i64 x.next))
  have hL5 := hidS (below_at (k := O) (b := B) (v := .int .i64 x.next) hL4.out (by omega))
  have HADR := hidS ladr
  clear ladr hf hn EC hx ILL P5 Q5 HST
  go_upto_region 9 with fail
  clear lv lf d3 cO0 P4 Q4 hGR4 hGO4 hL4
  generalize w4.setCell ⟨B, O, none⟩ (.int .i64 x.next) = w5 at HP5 HQ5 hGR5 hGO5 hL5 ⊢
  have hnl2 : n < (setLink s (chN s key) x.next (linkP s key)).slots.length := by rw [setLink_len.1]; exact hnl
  obtain ⟨b2', o2', eS, _, d0, d1, d2, d3⟩ := HP5.out.read.slot hnl2
  injection eS with eS; injection eS with eS1 eS2
  subst eS1 eS2
  rw [HTR.out] at d2
  clear d0 d1 d3
  have f2 := (rowB_cells HP5.out (4 * n + 2) (by rw [flat_len]; omega)).2
  rw [show o2 + (4 * n + 2) = o2 + n * 4 + 2 by omega] at f2
  have cO0 := blk_cell hGO5.out 0
  simp at cO0
  have HP6 := hidS (cut_refs (r := x.refs - 1) HOK.out hnl HP5.out)
  have HQ6 := hidS (RowB.other (g := b2) (k := o2 + n * 4 + 2) (v := .int .i64 (x.refs - 1)) HQ5.out (fun e => hne e.symm))
  have hGR6 := hidS (blk_other (B := b2) hGR5.out (by omega) (o2 + n * 4 + 2) (.int .i64 (x.refs - 1)))
  have hGO6 := hidS (blk_other (B := b2) hGO5.out (by omega) (o2 + n * 4 + 2) (.int .i64 (x.refs - 1)))
  have hL6 := hidS (below_at (k := o2 + n * 4 + 2) (b := b2) (v := .int .i64 (x.refs - 1)) hL5.out (by omega))
  clear hnl2
  go_upto_region 10 with fail
  clear d2 f2 cO0 HP5 HQ5 hGR5 hGO5 hL5
  generalize w5.setCell ⟨b2, o2 + n * 4 + 2, none⟩ (.int .i64 (x.refs - 1)) = w6 at HP6 HQ6 hGR6 hGO6 hL6 ⊢
  have cO0 := blk_cell hGO6.out 0
  have cO1 := blk_cell hGO6.out 1
  simp at cO0 cO1
  have kR := blk_cell hGR6.out
  have fR := blk_free hGR6.out
  have HE1 : Hid (cutS s key = refS (setLink s (chN s key) x.next (linkP s key)) (n : Int) (x.refs - 1)) := by show _ = _; rw [ES.out, HNX.out, HSN.out]
  go_wp2_with fail
  refine bodyPost_ret (v := .agg #[.slice (some ⟨b2, o2, none⟩) s.slots.length cS2, .slice (some ⟨b3, o3, none⟩) s.heads.length cH2, .int .i64 (n : Int), .int .i64 0]) (by simp [results, Try.results27, go_sem, *]) rfl ?_
  refine ⟨some ⟨b2, o2, none⟩, cS2, some ⟨b3, o3, none⟩, cH2, by rw [HLEN.out.1, HLEN.out.2, EA.out, HEC.out], rows_own (by omega) (by omega) hne ?_ ?_, ?_⟩
  · rw [HE1.out]
    repeat (refine RowB.other ?_ (by omega))
    exact HP6.out
  · rw [HE1.out]
    repeat (refine RowB.other ?_ (by omega))
    exact HQ6.out
  · repeat (refine below_at ?_ (by omega))
    exact hL6.out
end Go.Proofs.Ytfjgofmjhccdkaa
