/- Proved here: spec.SlabAdd answers the slab with a key in its first free slot, in memory of its own, or a code; all old memory stays (conditions: the slab's rows can be read; at most 2^20 numbers). -/
import Derived.Test.YtfjgofmjhccdkaaAll10
import Derived.Test.YtfjgofmjhccdkaaSlabFindS
import Derived.Test.YtfjgofmjhccdkaaSlabCopyS
import Derived.Test.YtfjgofmjhccdkaaAll13
import Derived.BigRegion
namespace Go.Proofs.Ytfjgofmjhccdkaa
open Go.ChangeShapes Go.WideShapes Go.ChangeAt Go.RowKit
set_option linter.unusedVariables false
set_option linter.unusedSimpArgs false
set_option maxRecDepth 100000

/-- the first free slot -/
def freeK : List Slt → Nat
  | [] => 0
  | x :: ss => if 0 < x.refs then freeK ss + 1 else 0
theorem free_held {ss : List Slt} {k : Nat} (hk : k < ss.length) (h : 0 < (ss.getD k zeroSlt).refs) : freeK (ss.drop k) = freeK (ss.drop (k + 1)) + 1 := by
  rw [List.drop_eq_getElem_cons hk]
  have e : ss.getD k zeroSlt = ss[k] := by simp [hk]
  rw [e] at h
  simp only [freeK]
  rw [if_pos h]
theorem free_free {ss : List Slt} {k : Nat} (hk : k < ss.length) (h : ¬ 0 < (ss.getD k zeroSlt).refs) : freeK (ss.drop k) = 0 := by
  rw [List.drop_eq_getElem_cons hk]
  have e : ss.getD k zeroSlt = ss[k] := by simp [hk]
  rw [e] at h
  simp only [freeK]
  rw [if_neg h]
theorem gen_nat {s : Slb} (h : rightSl s = true) {i : Nat} (hi : i < s.slots.length) : 0 ≤ (s.slots.getD i zeroSlt).gen ∧ (s.slots.getD i zeroSlt).gen ≤ 1000000 := by
  unfold rightSl slotsB at h
  simp only [Bool.and_eq_true, List.all_eq_true] at h
  have := h.1.2.1 (s.slots.getD i zeroSlt) (by rw [List.getD_eq_getElem?_getD, List.getElem?_eq_getElem hi]; exact List.getElem_mem _)
  unfold okS timeB at this
  simp only [Bool.and_eq_true, decide_eq_true_eq] at this
  exact this.1.1.2
def addOk (s : Slb) (key : Int) : Bool := rightSl s && keyB key
def addFull (s : Slb) : Bool := decide (freeK s.slots = s.slots.length) || decide (1000000 ≤ (s.slots.getD (freeK s.slots) zeroSlt).gen)
/-- the code of SlabAdd -/
def addC (s : Slb) (key : Int) : Int := if addOk s key = true then (if 0 ≤ findSl s key then 7 else if addFull s = true then 9 else 0) else 1
/-- the slab with the key in its first free slot -/
def addIn (s : Slb) (key : Int) : Slb := ⟨s.slots.set (freeK s.slots) ⟨key, (s.slots.getD (freeK s.slots) zeroSlt).gen + 1, 1, s.heads.getD (key.tmod s.heads.length).toNat 0⟩, s.heads.set (key.tmod s.heads.length).toNat (freeK s.slots : Int)⟩
def addS (s : Slb) (key : Int) : Slb := if addC s key = 0 then addIn s key else ⟨[], []⟩
def addA (s : Slb) (key : Int) : Int := if addC s key = 0 then (freeK s.slots : Int) else 0
theorem add_ill {s : Slb} {key c : Int} (h : addC s key = c) (hc : c ≠ 0) : addS s key = ⟨[], []⟩ ∧ addA s key = 0 := by
  unfold addS addA
  rw [h, if_neg hc, if_neg hc]
  exact ⟨rfl, rfl⟩
set_option maxHeartbeats 8000000 in
theorem specSlabAdd_any (aS aH : Option Addr) (cS cH : Nat) (s : Slb) (key : Int) (w : World) (hR : SlabZ aS aH s w) (h1 : s.slots.length ≤ 1048576) (h2 : s.heads.length ≤ 1048576) :
    Calls Try.prog 25 #[.agg #[.slice aS s.slots.length cS, .slice aH s.heads.length cH], .int .i64 key] w fun e w' => OutAns (addS s key) (addA s key) (addC s key) w e w' := by
  have HS := hidS (fun W (h : Below w.heap.size w W) => specSlabRight_any aS aH cS cH s W (hR.later h) h1 h2)
  have HK := hidS (fun W => l06Key_any key W)
  have HI := hidS (fun c W => l06Ill_any c W)
  cases hr : rightSl s
  · have EC : Hid (addC s key = 1) := by show _ = _; unfold addC addOk; rw [hr]; rfl
    obtain ⟨e1, e2⟩ := add_ill EC.out (by decide)
    rw [e1, e2, EC.out]
    clear e1 e2 EC
    refine Calls.mono (R := fun e w' => e = .returned (.agg #[.slice none 0 0, .slice none 0 0, .int .i64 0, .int .i64 1]) ∧ Below w.heap.size w w') ?_ (fun e x h => ill_out h)
    rw [hr] at HS
    clear hr hR
    have hGA0 : Hid (((w.alloc (.cells #[.slice aS s.slots.length cS, .slice aH s.heads.length cH] 26)).alloc (.cells #[.slice none 0 0, .slice none 0 0, .int .i64 0, .int .i64 0] 47)).heap[w.heap.size]? = some (.cells #[.slice aS s.slots.length cS, .slice aH s.heads.length cH] 26)) := by
      show _ = _
      have := blk_alloc (heap_newG w (.cells #[.slice aS s.slots.length cS, .slice aH s.heads.length cH] 26)) (.cells #[.slice none 0 0, .slice none 0 0, .int .i64 0, .int .i64 0] 47)
      simpa using this
    have hGR0 : Hid (((w.alloc (.cells #[.slice aS s.slots.length cS, .slice aH s.heads.length cH] 26)).alloc (.cells #[.slice none 0 0, .slice none 0 0, .int .i64 0, .int .i64 0] 47)).heap[w.heap.size + 1]? = some (.cells #[.slice none 0 0, .slice none 0 0, .int .i64 0, .int .i64 0] 47)) := by
      show _ = _
      have := heap_newG (w.alloc (.cells #[.slice aS s.slots.length cS, .slice aH s.heads.length cH] 26)) (.cells #[.slice none 0 0, .slice none 0 0, .int .i64 0, .int .i64 0] 47)
      simpa using this
    have hL0 := hidS (((Below.refl w.heap.size w).alloc (Nat.le_refl _) (.cells #[.slice aS s.slots.length cS, .slice aH s.heads.length cH] 26)).alloc (by simp) (.cells #[.slice none 0 0, .slice none 0 0, .int .i64 0, .int .i64 0] 47))
    go_enter Try.func25, Try.ntmps25
    go_wp2_with fail
    refine (HS.out _ hL0.out).mono ?_
    rintro _ w1 ⟨rfl, hb1⟩
    have hGA1 := hidS (blk_later hGA0.out hb1)
    have hGR1 := hidS (blk_later hGR0.out hb1)
    have hL1 := hidS (hL0.out.trans (hb1.mono hL0.out.size))
    clear hb1 hL0 hGA0 hGR0
    have cA0 := blk_cell hGA1.out 0
    have cA1 := blk_cell hGA1.out 1
    simp at cA0 cA1
    go_wp2_with fail
    refine (HI.out 1 _).mono ?_
    rintro _ w2 ⟨rfl, hb2⟩
    clear cA0 cA1
    have hGA2 := hidS (blk_later hGA1.out hb2)
    have hGR2 := hidS (blk_later hGR1.out hb2)
    have hL2 := hidS (hL1.out.trans (hb2.mono hL1.out.size))
    clear hb2 hL1 hGA1 hGR1
    have kR := blk_cell hGR2.out
    have fR := blk_free hGR2.out
    go_wp2_with fail
    refine bodyPost_ret (v := .agg #[.slice none 0 0, .slice none 0 0, .int .i64 0, .int .i64 1]) (by simp [results, Try.results25, go_sem, *]) rfl ⟨rfl, ?_⟩
    repeat (refine below_at ?_ (by omega))
    exact hL2.out
  rw [hr] at HS
  cases hk : keyB key
  · have EC : Hid (addC s key = 1) := by show _ = _; unfold addC addOk; rw [hr, hk]; rfl
    obtain ⟨e1, e2⟩ := add_ill EC.out (by decide)
    rw [e1, e2, EC.out]
    clear e1 e2 EC
    refine Calls.mono (R := fun e w' => e = .returned (.agg #[.slice none 0 0, .slice none 0 0, .int .i64 0, .int .i64 1]) ∧ Below w.heap.size w w') ?_ (fun e x h => ill_out h)
    rw [hk] at HK
    clear hr hR hk
    have hGA0 : Hid (((w.alloc (.cells #[.slice aS s.slots.length cS, .slice aH s.heads.length cH] 26)).alloc (.cells #[.slice none 0 0, .slice none 0 0, .int .i64 0, .int .i64 0] 47)).heap[w.heap.size]? = some (.cells #[.slice aS s.slots.length cS, .slice aH s.heads.length cH] 26)) := by
      show _ = _
      have := blk_alloc (heap_newG w (.cells #[.slice aS s.slots.length cS, .slice aH s.heads.length cH] 26)) (.cells #[.slice none 0 0, .slice none 0 0, .int .i64 0, .int .i64 0] 47)
      simpa using this
    have hGR0 : Hid (((w.alloc (.cells #[.slice aS s.slots.length cS, .slice aH s.heads.length cH] 26)).alloc (.cells #[.slice none 0 0, .slice none 0 0, .int .i64 0, .int .i64 0] 47)).heap[w.heap.size + 1]? = some (.cells #[.slice none 0 0, .slice none 0 0, .int .i64 0, .int .i64 0] 47)) := by
      show _ = _
      have := heap_newG (w.alloc (.cells #[.slice aS s.slots.length cS, .slice aH s.heads.length cH] 26)) (.cells #[.slice none 0 0, .slice none 0 0, .int .i64 0, .int .i64 0] 47)
      simpa using this
    have hL0 := hidS (((Below.refl w.heap.size w).alloc (Nat.le_refl _) (.cells #[.slice aS s.slots.length cS, .slice aH s.heads.length cH] 26)).alloc (by simp) (.cells #[.slice none 0 0, .slice none 0 0, .int .i64 0, .int .i64 0] 47))
    go_enter Try.func25, Try.ntmps25
    go_wp2_with fail
    refine (HS.out _ hL0.out).mono ?_
    rintro _ w1 ⟨rfl, hb1⟩
    have hGA1 := hidS (blk_later hGA0.out hb1)
    have hGR1 := hidS (blk_later hGR0.out hb1)
    have hL1 := hidS (hL0.out.trans (hb1.mono hL0.out.size))
    clear hb1 hL0 hGA0 hGR0
    have cA0 := blk_cell hGA1.out 0
    have cA1 := blk_cell hGA1.out 1
    simp at cA0 cA1
    go_wp2_with fail
    refine (HK.out _).mono ?_
    rintro _ v ⟨rfl, hv⟩
    rw [hv]
    clear hv v
    go_wp2_with fail
    refine (HI.out 1 _).mono ?_
    rintro _ w2 ⟨rfl, hb2⟩
    clear cA0 cA1
    have hGA2 := hidS (blk_later hGA1.out hb2)
    have hGR2 := hidS (blk_later hGR1.out hb2)
    have hL2 := hidS (hL1.out.trans (hb2.mono hL1.out.size))
    clear hb2 hL1 hGA1 hGR1
    have kR := blk_cell hGR2.out
    have fR := blk_free hGR2.out
    go_wp2_with fail
    refine bodyPost_ret (v := .agg #[.slice none 0 0, .slice none 0 0, .int .i64 0, .int .i64 1]) (by simp [results, Try.results25, go_sem, *]) rfl ⟨rfl, ?_⟩
    repeat (refine below_at ?_ (by omega))
    exact hL2.out
  rw [hk] at HK
  obtain ⟨hLe, n1, n2, n3, n4⟩ := right_leads hr
  have hk0 : 0 ≤ key := by unfold keyB at hk; simp at hk; exact hk.1
  have HF := hidS (fun W (h : Below w.heap.size w W) => l06Find_any aS aH cS cH s key W (hR.later h) hLe n2 n4 n3 hk0)
  by_cases hf : 0 ≤ findSl s key
  · have EC : Hid (addC s key = 7) := by show _ = _; unfold addC addOk; rw [hr, hk, if_pos (show (true && true) = true from rfl), if_pos hf]
    obtain ⟨e1, e2⟩ := add_ill EC.out (by decide)
    rw [e1, e2, EC.out]
    clear e1 e2 EC
    refine Calls.mono (R := fun e w' => e = .returned (.agg #[.slice none 0 0, .slice none 0 0, .int .i64 0, .int .i64 7]) ∧ Below w.heap.size w w') ?_ (fun e x h => ill_out h)
    generalize findSl s key = f at HF hf
    clear hr hR hk hLe
    have hGA0 : Hid (((w.alloc (.cells #[.slice aS s.slots.length cS, .slice aH s.heads.length cH] 26)).alloc (.cells #[.slice none 0 0, .slice none 0 0, .int .i64 0, .int .i64 0] 47)).heap[w.heap.size]? = some (.cells #[.slice aS s.slots.length cS, .slice aH s.heads.length cH] 26)) := by
      show _ = _
      have := blk_alloc (heap_newG w (.cells #[.slice aS s.slots.length cS, .slice aH s.heads.length cH] 26)) (.cells #[.slice none 0 0, .slice none 0 0, .int .i64 0, .int .i64 0] 47)
      simpa using this
    have hGR0 : Hid (((w.alloc (.cells #[.slice aS s.slots.length cS, .slice aH s.heads.length cH] 26)).alloc (.cells #[.slice none 0 0, .slice none 0 0, .int .i64 0, .int .i64 0] 47)).heap[w.heap.size + 1]? = some (.cells #[.slice none 0 0, .slice none 0 0, .int .i64 0, .int .i64 0] 47)) := by
      show _ = _
      have := heap_newG (w.alloc (.cells #[.slice aS s.slots.length cS, .slice aH s.heads.length cH] 26)) (.cells #[.slice none 0 0, .slice none 0 0, .int .i64 0, .int .i64 0] 47)
      simpa using this
    have hL0 := hidS (((Below.refl w.heap.size w).alloc (Nat.le_refl _) (.cells #[.slice aS s.slots.length cS, .slice aH s.heads.length cH] 26)).alloc (by simp) (.cells #[.slice none 0 0, .slice none 0 0, .int .i64 0, .int .i64 0] 47))
    go_enter Try.func25, Try.ntmps25
    go_wp2_with fail
    refine (HS.out _ hL0.out).mono ?_
    rintro _ w1 ⟨rfl, hb1⟩
    have hGA1 := hidS (blk_later hGA0.out hb1)
    have hGR1 := hidS (blk_later hGR0.out hb1)
    have hL1 := hidS (hL0.out.trans (hb1.mono hL0.out.size))
    clear hb1 hL0 hGA0 hGR0
    have cA0 := blk_cell hGA1.out 0
    have cA1 := blk_cell hGA1.out 1
    simp at cA0 cA1
    go_wp2_with fail
    refine (HK.out _).mono ?_
    rintro _ v ⟨rfl, hv⟩
    rw [hv]
    clear hv v
    go_wp2_with fail
    refine (HF.out _ hL1.out).mono ?_
    rintro _ w2 ⟨rfl, hb2⟩
    clear cA0 cA1
    have hGA2 := hidS (blk_later hGA1.out hb2)
    have hGR2 := hidS (blk_later hGR1.out hb2)
    have hL2 := hidS (hL1.out.trans (hb2.mono hL1.out.size))
    clear hb2 hL1 hGA1 hGR1
    have cA0 := blk_cell hGA2.out 0
    have cA1 := blk_cell hGA2.out 1
    simp at cA0 cA1
    go_wp2_with fail
    refine (HI.out 7 _).mono ?_
    rintro _ w3 ⟨rfl, hb3⟩
    clear cA0 cA1
    have hGA3 := hidS (blk_later hGA2.out hb3)
    have hGR3 := hidS (blk_later hGR2.out hb3)
    have hL3 := hidS (hL2.out.trans (hb3.mono hL2.out.size))
    clear hb3 hL2 hGA2 hGR2
    have kR := blk_cell hGR3.out
    have fR := blk_free hGR3.out
    go_wp2_with fail
    refine bodyPost_ret (v := .agg #[.slice none 0 0, .slice none 0 0, .int .i64 0, .int .i64 7]) (by simp [results, Try.results25, go_sem, *]) rfl ⟨rfl, ?_⟩
    repeat (refine below_at ?_ (by omega))
    exact hL3.out
  obtain ⟨bS, oS, rfl, _⟩ := hR.slots.slot (show 0 < s.slots.length by omega)
  obtain ⟨bH, oH, rfl, _⟩ := hR.heads 0 (by omega)
  have EC0 : Hid (addC s key = if addFull s = true then 9 else 0) := by show _ = _; unfold addC addOk; rw [hr, hk, if_pos (show (true && true) = true from rfl), if_neg hf]
  have HG := hidS (fun i (hi : i < s.slots.length) => gen_nat hr hi)
  have HCP := hidS (fun W (h : Below w.heap.size w W) => l06Copy_any bS oS bH oH cS cH s W (hR.later h) n2 n4)
  have HR := hidS hR
  obtain ⟨c, hmod⟩ : ∃ c : Nat, key.tmod s.heads.length = (c : Int) := ⟨(key.tmod s.heads.length).toNat, by have := Int.tmod_nonneg (s.heads.length : Int) hk0; omega⟩
  have hcl : c < s.heads.length := by have := Int.tmod_lt_of_pos key (show (0 : Int) < s.heads.length by omega); omega
  have EI : Hid (addIn s key = ⟨s.slots.set (freeK s.slots) ⟨key, (s.slots.getD (freeK s.slots) zeroSlt).gen + 1, 1, s.heads.getD c 0⟩, s.heads.set c (freeK s.slots : Int)⟩) := by show _ = _; unfold addIn; rw [hmod]; rfl
  generalize findSl s key = f at HF hf
  clear hr hR hk hLe
  have hGA0 : Hid (((w.alloc (.cells #[.slice (some ⟨bS, oS, none⟩) s.slots.length cS, .slice (some ⟨bH, oH, none⟩) s.heads.length cH] 26)).alloc (.cells #[.slice none 0 0, .slice none 0 0, .int .i64 0, .int .i64 0] 47)).heap[w.heap.size]? = some (.cells #[.slice (some ⟨bS, oS, none⟩) s.slots.length cS, .slice (some ⟨bH, oH, none⟩) s.heads.length cH] 26)) := by
    show _ = _
    have := blk_alloc (heap_newG w (.cells #[.slice (some ⟨bS, oS, none⟩) s.slots.length cS, .slice (some ⟨bH, oH, none⟩) s.heads.length cH] 26)) (.cells #[.slice none 0 0, .slice none 0 0, .int .i64 0, .int .i64 0] 47)
    simpa using this
  have hGR0 : Hid (((w.alloc (.cells #[.slice (some ⟨bS, oS, none⟩) s.slots.length cS, .slice (some ⟨bH, oH, none⟩) s.heads.length cH] 26)).alloc (.cells #[.slice none 0 0, .slice none 0 0, .int .i64 0, .int .i64 0] 47)).heap[w.heap.size + 1]? = some (.cells #[.slice none 0 0, .slice none 0 0, .int .i64 0, .int .i64 0] 47)) := by
    show _ = _
    have := heap_newG (w.alloc (.cells #[.slice (some ⟨bS, oS, none⟩) s.slots.length cS, .slice (some ⟨bH, oH, none⟩) s.heads.length cH] 26)) (.cells #[.slice none 0 0, .slice none 0 0, .int .i64 0, .int .i64 0] 47)
    simpa using this
  have hL0 := hidS (((Below.refl w.heap.size w).alloc (Nat.le_refl _) (.cells #[.slice (some ⟨bS, oS, none⟩) s.slots.length cS, .slice (some ⟨bH, oH, none⟩) s.heads.length cH] 26)).alloc (by simp) (.cells #[.slice none 0 0, .slice none 0 0, .int .i64 0, .int .i64 0] 47))
  go_enter Try.func25, Try.ntmps25
  go_wp2_with fail
  refine (HS.out _ hL0.out).mono ?_
  rintro _ w1 ⟨rfl, hb1⟩
  have hGA1 := hidS (blk_later hGA0.out hb1)
  have hGR1 := hidS (blk_later hGR0.out hb1)
  have hL1 := hidS (hL0.out.trans (hb1.mono hL0.out.size))
  clear hb1 hL0 hGA0 hGR0
  have cA0 := blk_cell hGA1.out 0
  have cA1 := blk_cell hGA1.out 1
  simp at cA0 cA1
  go_wp2_with fail
  refine (HK.out _).mono ?_
  rintro _ v ⟨rfl, hv⟩
  rw [hv]
  clear hv v
  go_wp2_with fail
  refine (HF.out _ hL1.out).mono ?_
  rintro _ w2 ⟨rfl, hb2⟩
  clear cA0 cA1
  have hGA2 := hidS (blk_later hGA1.out hb2)
  have hGR2 := hidS (blk_later hGR1.out hb2)
  have hL2 := hidS (hL1.out.trans (hb2.mono hL1.out.size))
  clear hb2 hL1 hGA1 hGR1
  have cA0 := blk_cell hGA2.out 0
  have cA1 := blk_cell hGA2.out 1
  simp at cA0 cA1
  go_wp2_with fail
  have HA2 := hGA2
  have HR2 := hGR2
  have HB2 := hL2
  clear hGA2 hGR2 hL2 cA0 cA1 HS HK HF
  go_loopw [5] (fun kk wr => ∃ k : Nat, kk = .int .i64 (k : Int) ∧ k ≤ s.slots.length ∧ freeK s.slots = k + freeK (s.slots.drop k) ∧ wr.heap[w.heap.size]? = some (.cells #[.slice (some ⟨bS, oS, none⟩) s.slots.length cS, .slice (some ⟨bH, oH, none⟩) s.heads.length cH] 26) ∧ wr.heap[w.heap.size + 1]? = some (.cells #[.slice none 0 0, .slice none 0 0, .int .i64 0, .int .i64 0] 47) ∧ Below w.heap.size w wr) (fun kk _ => (s.slots.length - (intOf kk).toNat))
  case atStart => exact ⟨0, rfl, Nat.zero_le _, by simp, HA2.out, HR2.out, HB2.out⟩
  case round =>
    obtain ⟨k, rfl, hk, hfk, hA, hRr, hb⟩ := hrel
    have hGA1 := hidS hA
    have hGR1 := hidS hRr
    have hL1 := hidS hb
    have HFK := hidS hfk
    clear HA2 HR2 HB2 hA hRr hb hfk
    have cA0 := blk_cell hGA1.out 0
    have cA1 := blk_cell hGA1.out 1
    simp at cA0 cA1
    by_cases hlt : ¬ k < s.slots.length
    · have e : k = s.slots.length := by omega
      subst e
      have EF : Hid (freeK s.slots = s.slots.length) := by show _ = _; have := HFK.out; rw [List.drop_length] at this; simpa [freeK] using this
      have EC : Hid (addC s key = 9) := by show _ = _; rw [EC0.out]; unfold addFull; rw [EF.out]; simp
      have hge : ¬ (s.slots.length : Int) < (s.slots.length : Int) := by omega
      clear hlt
      go_wp2_with fail
      refine (HI.out 9 _).mono ?_
      rintro _ w3 ⟨rfl, hb3⟩
      have hGR3 := hidS (blk_later hGR1.out hb3)
      have hL3 := hidS (hL1.out.trans (hb3.mono hL1.out.size))
      clear hb3 hGA1 hGR1 hL1 cA0 cA1
      have kR := blk_cell hGR3.out
      have fR := blk_free hGR3.out
      go_wp2_with fail
      refine bodyPost_ret (v := .agg #[.slice none 0 0, .slice none 0 0, .int .i64 0, .int .i64 9]) (by simp [results, Try.results25, go_sem, *]) rfl ?_
      obtain ⟨e1, e2⟩ := add_ill EC.out (by decide)
      rw [e1, e2, EC.out]
      refine ill_out ⟨rfl, ?_⟩
      repeat (refine below_at ?_ (by omega))
      exact hL3.out
    have hlt := Classical.not_not.1 hlt
    have hkk : (0 : Int) ≤ (k : Int) ∧ (k : Int) < (s.slots.length : Int) := by omega
    obtain ⟨x, hx⟩ : ∃ x, s.slots.getD k zeroSlt = x := ⟨_, rfl⟩
    obtain ⟨bS', oS', eS, lS, c0, c1, c2, c3⟩ := (HR.out.slots.later hL1.out).slot hlt
    injection eS with eS; injection eS with eS1 eS2
    subst eS1 eS2
    rw [hx] at c1 c2
    clear c0 c3
    by_cases h0 : 0 < x.refs
    · have HFN : Hid (freeK s.slots = k + 1 + freeK (s.slots.drop (k + 1))) := by show _ = _; have := HFK.out; rw [free_held hlt (by rw [hx]; exact h0)] at this; omega
      go_wp2_with fail
      go_roundw
      case rel => exact ⟨k + 1, by simp, by omega, HFN.out, hGA1.out, hGR1.out, hL1.out⟩
      case measure => simp [intOf]; omega
    have EF : Hid (freeK s.slots = k) := by show _ = _; have := HFK.out; rw [free_free hlt (by rw [hx]; exact h0)] at this; omega
    have hkl : ((k : Int) == (s.slots.length : Int)) = false := beq_eq_false_iff_ne.2 (by omega)
    by_cases hg : 1000000 ≤ x.gen
    · have EC : Hid (addC s key = 9) := by show _ = _; rw [EC0.out]; unfold addFull; rw [EF.out, hx]; simp [hg]
      go_wp2_with fail
      refine (HI.out 9 _).mono ?_
      rintro _ w3 ⟨rfl, hb3⟩
      have hGR3 := hidS (blk_later hGR1.out hb3)
      have hL3 := hidS (hL1.out.trans (hb3.mono hL1.out.size))
      clear hb3 hGA1 hGR1 hL1 cA0 cA1 c1 c2
      have kR := blk_cell hGR3.out
      have fR := blk_free hGR3.out
      go_wp2_with fail
      refine bodyPost_ret (v := .agg #[.slice none 0 0, .slice none 0 0, .int .i64 0, .int .i64 9]) (by simp [results, Try.results25, go_sem, *]) rfl ?_
      obtain ⟨e1, e2⟩ := add_ill EC.out (by decide)
      rw [e1, e2, EC.out]
      refine ill_out ⟨rfl, ?_⟩
      repeat (refine below_at ?_ (by omega))
      exact hL3.out
    have EC : Hid (addC s key = 0) := by show _ = _; rw [EC0.out]; unfold addFull; rw [EF.out, hx]; rw [if_neg (by simp; omega)]
    have hg0 := HG.out k hlt
    rw [hx] at hg0
    have hne0 : s.heads ≠ [] := fun e => by rw [e] at n3; simp at n3
    go_wp2_with fail
    refine (HCP.out _ hL1.out).mono ?_
    rintro _ w2 ⟨aS2, cS2, aH2, cH2, rfl, hO, hb2⟩
    clear cA0 cA1 c1 c2 lS
    have hGA2 := hidS (blk_later hGA1.out hb2)
    have hGR2 := hidS (blk_later hGR1.out hb2)
    have hL2 := hidS (hL1.out.trans (hb2.mono hL1.out.size))
    have lA1 := blk_lt hGA1.out
    have lR1 := blk_lt hGR1.out
    clear hGA1 hGR1 hL1 hb2
    obtain ⟨b2, o2, rfl, p1, p2, p3⟩ : ∃ b o, aS2 = some ⟨b, o, none⟩ ∧ wr.heap.size ≤ b ∧ b < w2.heap.size ∧ RowB b o (flat s.slots) w2 := by
      rcases hO.slots with e | h
      · have := flat_len s.slots; rw [e] at this; simp at this; omega
      · exact h
    obtain ⟨b3, o3, rfl, q1, q2, q3⟩ : ∃ b o, aH2 = some ⟨b, o, none⟩ ∧ wr.heap.size ≤ b ∧ b < w2.heap.size ∧ RowB b o s.heads w2 := by
      rcases hO.heads with e | h
      · exact (hne0 e).elim
      · exact h
    have hne : b2 ≠ b3 := hO.two _ _ _ _ rfl rfl (fun e => by rw [e] at n1; simp at n1) hne0
    clear hO
    have cA0 := blk_cell hGA2.out 0
    have cA1 := blk_cell hGA2.out 1
    simp at cA0 cA1
    go_upto_region 11 with fail
    have P3 := hidS (p3.later ((Below.refl w2.heap.size w2).alloc (Nat.le_refl _) (.cells #[.slice (some ⟨b2, o2, none⟩) s.slots.length cS2, .slice (some ⟨b3, o3, none⟩) s.heads.length cH2] 26)))
    have Q3 := hidS (q3.later ((Below.refl w2.heap.size w2).alloc (Nat.le_refl _) (.cells #[.slice (some ⟨b2, o2, none⟩) s.slots.length cS2, .slice (some ⟨b3, o3, none⟩) s.heads.length cH2] 26)))
    clear p3 q3
    have hGO3 := hidS (heap_newG w2 (.cells #[.slice (some ⟨b2, o2, none⟩) s.slots.length cS2, .slice (some ⟨b3, o3, none⟩) s.heads.length cH2] 26))
    have hGA3 := hidS (blk_alloc hGA2.out (.cells #[.slice (some ⟨b2, o2, none⟩) s.slots.length cS2, .slice (some ⟨b3, o3, none⟩) s.heads.length cH2] 26))
    have hGR3 := hidS (blk_alloc hGR2.out (.cells #[.slice (some ⟨b2, o2, none⟩) s.slots.length cS2, .slice (some ⟨b3, o3, none⟩) s.heads.length cH2] 26))
    have hL3 := hidS (hL2.out.alloc hL2.out.size (.cells #[.slice (some ⟨b2, o2, none⟩) s.slots.length cS2, .slice (some ⟨b3, o3, none⟩) s.heads.length cH2] 26))
    have nO := blk_lt hGR2.out
    clear cA0 cA1 hL2 hGA2 hGR2
    generalize w2.alloc (.cells #[.slice (some ⟨b2, o2, none⟩) s.slots.length cS2, .slice (some ⟨b3, o3, none⟩) s.heads.length cH2] 26) = w3 at P3 Q3 hGO3 hGA3 hGR3 hL3 ⊢
    have cA0 := blk_cell hGA3.out 0
    have cA1 := blk_cell hGA3.out 1
    have cO0 := blk_cell hGO3.out 0
    have cO1 := blk_cell hGO3.out 1
    simp at cA0 cA1 cO0 cO1
    obtain ⟨bS', oS', eS, lS, c0, c1, c2, c3⟩ := (HR.out.slots.later hL3.out).slot hlt
    injection eS with eS; injection eS with eS1 eS2
    subst eS1 eS2
    rw [hx] at c1
    clear c0 c2 c3
    obtain ⟨bH', oH', eS, lH, ch⟩ := (HR.out.heads.later hL3.out) c hcl
    injection eS with eS; injection eS with eS1 eS2
    subst eS1 eS2
    obtain ⟨h, hh⟩ : ∃ h, s.heads.getD c 0 = h := ⟨_, rfl⟩
    rw [hh] at ch
    obtain ⟨b2', o2', eS, _, d0, d1, d2, d3⟩ := P3.out.read.slot hlt
    injection eS with eS; injection eS with eS1 eS2
    subst eS1 eS2
    have f0 := (rowB_cells P3.out (4 * k) (by rw [flat_len]; omega)).2
    have f1 := (rowB_cells P3.out (4 * k + 1) (by rw [flat_len]; omega)).2
    have f2 := (rowB_cells P3.out (4 * k + 2) (by rw [flat_len]; omega)).2
    have f3 := (rowB_cells P3.out (4 * k + 3) (by rw [flat_len]; omega)).2
    rw [show o2 + 4 * k = o2 + k * 4 by omega] at f0
    rw [show o2 + (4 * k + 1) = o2 + k * 4 + 1 by omega] at f1
    rw [show o2 + (4 * k + 2) = o2 + k * 4 + 2 by omega] at f2
    rw [show o2 + (4 * k + 3) = o2 + k * 4 + 3 by omega] at f3
    have hcc : (0 : Int) ≤ (c : Int) ∧ (c : Int) < (s.heads.length : Int) := by omega
    clear HCP HI
    go_wp2_with fail
    go_region
    have hwb : w.heap.size ≤ b2 ∧ w.heap.size + 1 < b2 ∧ w.heap.size ≤ b3 ∧ w.heap.size + 1 < b3 := by omega
    have P4 : Hid (RowB b2 o2 (flat (s.slots.set k ⟨key, x.gen + 1, 1, h⟩)) (((((w3.setCell ⟨b2, o2 + k * 4, none⟩ (.int .i64 key)).setCell ⟨b2, o2 + k * 4 + 1, none⟩ (.int .i64 (x.gen + 1))).setCell ⟨b2, o2 + k * 4 + 2, none⟩ (.int .i64 1)).setCell ⟨b2, o2 + k * 4 + 3, none⟩ (.int .i64 h)).drew)) := by
      have h' := (((P3.out.set (4 * k) key (by rw [flat_len]; omega)).set (4 * k + 1) (x.gen + 1) (by simp [flat_len]; omega)).set (4 * k + 2) 1 (by simp [flat_len]; omega)).set (4 * k + 3) h (by simp [flat_len]; omega)
      have e := flat_set s.slots k ⟨key, x.gen + 1, 1, h⟩ hlt
      simp only at e
      rw [e, show o2 + 4 * k = o2 + k * 4 by omega, show o2 + (4 * k + 1) = o2 + k * 4 + 1 by omega, show o2 + (4 * k + 2) = o2 + k * 4 + 2 by omega, show o2 + (4 * k + 3) = o2 + k * 4 + 3 by omega] at h'
      exact h'
    have Q4 : Hid (RowB b3 o3 s.heads (((((w3.setCell ⟨b2, o2 + k * 4, none⟩ (.int .i64 key)).setCell ⟨b2, o2 + k * 4 + 1, none⟩ (.int .i64 (x.gen + 1))).setCell ⟨b2, o2 + k * 4 + 2, none⟩ (.int .i64 1)).setCell ⟨b2, o2 + k * 4 + 3, none⟩ (.int .i64 h)).drew)) := hidS (RowB.other (g := b2) (k := o2 + k * 4 + 3) (v := .int .i64 h) (RowB.other (g := b2) (k := o2 + k * 4 + 2) (v := .int .i64 1) (RowB.other (g := b2) (k := o2 + k * 4 + 1) (v := .int .i64 (x.gen + 1)) (RowB.other (g := b2) (k := o2 + k * 4) (v := .int .i64 key) Q3.out (fun e => hne e.symm)) (fun e => hne e.symm)) (fun e => hne e.symm)) (fun e => hne e.symm))
    have hGR4 : Hid ((((((w3.setCell ⟨b2, o2 + k * 4, none⟩ (.int .i64 key)).setCell ⟨b2, o2 + k * 4 + 1, none⟩ (.int .i64 (x.gen + 1))).setCell ⟨b2, o2 + k * 4 + 2, none⟩ (.int .i64 1)).setCell ⟨b2, o2 + k * 4 + 3, none⟩ (.int .i64 h)).drew).heap[w.heap.size + 1]? = some (.cells #[.slice none 0 0, .slice none 0 0, .int .i64 0, .int .i64 0] 47)) := hidS (blk_other (B := b2) (blk_other (B := b2) (blk_other (B := b2) (blk_other (B := b2) hGR3.out (by omega) (o2 + k * 4) (.int .i64 key)) (by omega) (o2 + k * 4 + 1) (.int .i64 (x.gen + 1))) (by omega) (o2 + k * 4 + 2) (.int .i64 1)) (by omega) (o2 + k * 4 + 3) (.int .i64 h))
    have hGO4 : Hid ((((((w3.setCell ⟨b2, o2 + k * 4, none⟩ (.int .i64 key)).setCell ⟨b2, o2 + k * 4 + 1, none⟩ (.int .i64 (x.gen + 1))).setCell ⟨b2, o2 + k * 4 + 2, none⟩ (.int .i64 1)).setCell ⟨b2, o2 + k * 4 + 3, none⟩ (.int .i64 h)).drew).heap[w2.heap.size]? = some (.cells #[.slice (some ⟨b2, o2, none⟩) s.slots.length cS2, .slice (some ⟨b3, o3, none⟩) s.heads.length cH2] 26)) := hidS (blk_other (B := b2) (blk_other (B := b2) (blk_other (B := b2) (blk_other (B := b2) hGO3.out (by omega) (o2 + k * 4) (.int .i64 key)) (by omega) (o2 + k * 4 + 1) (.int .i64 (x.gen + 1))) (by omega) (o2 + k * 4 + 2) (.int .i64 1)) (by omega) (o2 + k * 4 + 3) (.int .i64 h))
    have hL4 : Hid (Below w.heap.size w (((((w3.setCell ⟨b2, o2 + k * 4, none⟩ (.int .i64 key)).setCell ⟨b2, o2 + k * 4 + 1, none⟩ (.int .i64 (x.gen + 1))).setCell ⟨b2, o2 + k * 4 + 2, none⟩ (.int .i64 1)).setCell ⟨b2, o2 + k * 4 + 3, none⟩ (.int .i64 h)).drew)) := hidS (below_at (k := o2 + k * 4 + 3) (b := b2) (v := .int .i64 h) (below_at (k := o2 + k * 4 + 2) (b := b2) (v := .int .i64 1) (below_at (k := o2 + k * 4 + 1) (b := b2) (v := .int .i64 (x.gen + 1)) (below_at (k := o2 + k * 4) (b := b2) (v := .int .i64 key) hL3.out (by omega)) (by omega)) (by omega)) (by omega)).drew
    clear P3 Q3 hGA3 hGR3 hGO3 hL3 cA0 cA1 cO0 cO1 c1 d0 d1 d2 d3 f0 f1 f2 f3 lS lH ch
    generalize ((((w3.setCell ⟨b2, o2 + k * 4, none⟩ (.int .i64 key)).setCell ⟨b2, o2 + k * 4 + 1, none⟩ (.int .i64 (x.gen + 1))).setCell ⟨b2, o2 + k * 4 + 2, none⟩ (.int .i64 1)).setCell ⟨b2, o2 + k * 4 + 3, none⟩ (.int .i64 h)).drew = w4 at P4 Q4 hGR4 hGO4 hL4 ⊢
    have cO1 := blk_cell hGO4.out 1
    simp at cO1
    obtain ⟨z, y0⟩ := (rowB_cells Q4.out c hcl).1
    have f0 := (rowB_cells Q4.out c hcl).2
    go_upto_region 14 with fail
    have P5 := hidS (RowB.other (g := b3) (k := o3 + c) (v := .int .i64 (k : Int)) P4.out hne)
    have Q5 := hidS (Q4.out.set c (k : Int) hcl)
    have hGR5 := hidS (blk_other (B := b3) hGR4.out (by omega) (o3 + c) (.int .i64 (k : Int)))
    have hGO5 := hidS (blk_other (B := b3) hGO4.out (by omega) (o3 + c) (.int .i64 (k : Int)))
    have hL5 := hidS (below_at (k := o3 + c) (b := b3) (v := .int .i64 (k : Int)) hL4.out (by omega))
    clear P4 Q4 hGR4 hGO4 hL4 cO1 y0 f0
    generalize w4.setCell ⟨b3, o3 + c, none⟩ (.int .i64 (k : Int)) = w5 at P5 Q5 hGR5 hGO5 hL5 ⊢
    have cO0 := blk_cell hGO5.out 0
    have cO1 := blk_cell hGO5.out 1
    simp at cO0 cO1
    have kR := blk_cell hGR5.out
    have fR := blk_free hGR5.out
    have ES : Hid (addS s key = ⟨s.slots.set k ⟨key, x.gen + 1, 1, h⟩, s.heads.set c (k : Int)⟩) := by show _ = _; unfold addS; rw [EC.out, if_pos rfl, EI.out, EF.out, hx, hh]
    have EA : Hid (addA s key = (k : Int)) := by show _ = _; unfold addA; rw [EC.out, if_pos rfl, EF.out]
    go_wp2_with fail
    refine bodyPost_ret (v := .agg #[.slice (some ⟨b2, o2, none⟩) s.slots.length cS2, .slice (some ⟨b3, o3, none⟩) s.heads.length cH2, .int .i64 (k : Int), .int .i64 0]) (by simp [results, Try.results25, go_sem, *]) rfl ?_
    rw [ES.out, EA.out, EC.out]
    refine ⟨some ⟨b2, o2, none⟩, cS2, some ⟨b3, o3, none⟩, cH2, by simp, ⟨?_, ?_, ?_⟩, ?_⟩
    · have P6 := P5.out
      refine .inr ⟨b2, o2, rfl, hwb.1, ?_, ?_⟩
      · refine RowB.lt (o := o2) (zs := flat (s.slots.set k ⟨key, x.gen + 1, 1, h⟩)) ?_; repeat (refine RowB.other ?_ (by omega))
        exact P6
      · repeat (refine RowB.other ?_ (by omega))
        exact P6
    · have Q6 := Q5.out
      refine .inr ⟨b3, o3, rfl, hwb.2.2.1, ?_, ?_⟩
      · refine RowB.lt (o := o3) (zs := s.heads.set c (k : Int)) ?_; repeat (refine RowB.other ?_ (by omega))
        exact Q6
      · repeat (refine RowB.other ?_ (by omega))
        exact Q6
    · intro b o c p e1 e2 _ _
      injection e1 with e1; injection e1 with e1
      injection e2 with e2; injection e2 with e2
      omega
    · repeat (refine below_at ?_ (by omega))
      exact hL5.out
end Go.Proofs.Ytfjgofmjhccdkaa
