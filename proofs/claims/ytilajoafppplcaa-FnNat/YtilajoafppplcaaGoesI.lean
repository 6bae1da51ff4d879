/- Proved here: impl.GoesAs answers as whom a new flow goes on; all old memory stays (conditions: rows that can be read, at most 2^20). -/
import Derived.Test.YtilajoafppplcaaGoesAS
import Derived.Test.YtilajoafppplcaaNamesOf
import Derived.Test.YtilajoafppplcaaAll36
import Derived.Test.YtilajoafppplcaaAll31
import Derived.Deep.Cut
import Derived.BigFrameIn
import Derived.BigRegionIn
namespace Go.Proofs.Ytilajoafppplcaa
open Go.ChangeShapes Go.WideShapes Go.ChangeAt Go.RowKit Go.Shelf
set_option linter.unusedVariables false
set_option linter.unusedSimpArgs false
set_option maxRecDepth 100000

theorem put7 (n B : Nat) (V : World) (y0 y1 y2 y3 y4 y5 y6 v0 v1 v2 v3 v4 v5 v6 : Value) (ty : TypeId) (h : V.heap[B]? = some (.cells #[y0, y1, y2, y3, y4, y5, y6] ty)) (hn : n ≤ B) :
    ((((((((V.setCell ⟨B, 0, none⟩ v0).setCell ⟨B, 1, none⟩ v1).setCell ⟨B, 2, none⟩ v2).setCell ⟨B, 3, none⟩ v3).setCell ⟨B, 4, none⟩ v4).setCell ⟨B, 5, none⟩ v5).setCell ⟨B, 6, none⟩ v6).heap[B]? = some (.cells #[v0, v1, v2, v3, v4, v5, v6] ty)) ∧
    Below n V (((((((V.setCell ⟨B, 0, none⟩ v0).setCell ⟨B, 1, none⟩ v1).setCell ⟨B, 2, none⟩ v2).setCell ⟨B, 3, none⟩ v3).setCell ⟨B, 4, none⟩ v4).setCell ⟨B, 5, none⟩ v5).setCell ⟨B, 6, none⟩ v6) ∧
    ∀ (k : Nat) (o : Obj), k ≠ B → V.heap[k]? = some o → (((((((V.setCell ⟨B, 0, none⟩ v0).setCell ⟨B, 1, none⟩ v1).setCell ⟨B, 2, none⟩ v2).setCell ⟨B, 3, none⟩ v3).setCell ⟨B, 4, none⟩ v4).setCell ⟨B, 5, none⟩ v5).setCell ⟨B, 6, none⟩ v6).heap[k]? = some o := by
  refine ⟨?_, ?_, fun k o hk ho => ?_⟩
  · have := blk_set (blk_set (blk_set (blk_set (blk_set (blk_set (blk_set h 0 v0) 1 v1) 2 v2) 3 v3) 4 v4) 5 v5) 6 v6
    simp only [List.setIfInBounds_toArray, List.set_cons_zero, List.set_cons_succ] at this
    exact this
  · iterate 7 (refine below_at ?_ hn)
    exact Below.refl _ _
  · exact blk_other (B := B) (blk_other (B := B) (blk_other (B := B) (blk_other (B := B) (blk_other (B := B) (blk_other (B := B) (blk_other (B := B) ho hk 0 v0) hk 1 v1) hk 2 v2) hk 3 v3) hk 4 v4) hk 5 v5) hk 6 v6
set_option maxHeartbeats 8000000 in
theorem implGoesAs_any (a b : Option Addr) (cap cap2 : Nat) (l : List Rl) (used : List Tp) (t : Tp) (start : Int) (w : World) (hR : RowZ a (flatRule l) w) (hU : RowZ b (flatTuple used) w) (hz : l.length ≤ 1048576) (hz2 : used.length ≤ 1048576) :
    Calls Try.prog 21 #[.slice a l.length cap, .agg #[.int .i64 t.proto, .int .i64 t.src, .int .i64 t.sport, .int .i64 t.dst, .int .i64 t.dport, .int .i64 t.kind], .int .i64 start, .slice b used.length cap2] w fun e w' => e = .returned (.agg #[.int .i64 (goesT l t start used).proto, .int .i64 (goesT l t start used).src, .int .i64 (goesT l t start used).sport, .int .i64 (goesT l t start used).dst, .int .i64 (goesT l t start used).dport, .int .i64 (goesT l t start used).kind, .int .i64 (goesC l t start used)]) ∧ Below w.heap.size w w' := by
  have HR := hidS hR
  have HU := hidS hU
  have hOK : Hid (goesOk l t start used = (rulesB l && rightT t && tmB start && decide (used.length ≤ 60) && allT used)) := rfl
  have HRR := hidS (fun W (h : Below w.heap.size w W) => implRules_any a cap l W (HR.out.later h) hz)
  have HTT := hidS (fun W => implTRight_any t W)
  have HAA := hidS (fun W (h : Below w.heap.size w W) => allOfT_any b cap2 used W (HU.out.later h) hz2)
  clear hR hU
  by_cases q1 : (400 : Int) < (l.length : Int)
  · have hsz : 400 < l.length ∨ 400 < used.length := by omega
    have E := hidS (goes_size (t := t) (start := start) hsz)
    have hGT0 : Hid ((((w.alloc (.cells #[.int .i64 t.proto, .int .i64 t.src, .int .i64 t.sport, .int .i64 t.dst, .int .i64 t.dport, .int .i64 t.kind] 52)).alloc (.cells #[.slice b used.length cap2] 53)).alloc (.cells #[.int .i64 0, .int .i64 0, .int .i64 0, .int .i64 0, .int .i64 0, .int .i64 0, .int .i64 0] 57)).heap[w.heap.size]? = some (.cells #[.int .i64 t.proto, .int .i64 t.src, .int .i64 t.sport, .int .i64 t.dst, .int .i64 t.dport, .int .i64 t.kind] 52)) := by
      show _ = _
      have := blk_alloc (blk_alloc (heap_newG w (.cells #[.int .i64 t.proto, .int .i64 t.src, .int .i64 t.sport, .int .i64 t.dst, .int .i64 t.dport, .int .i64 t.kind] 52)) (.cells #[.slice b used.length cap2] 53)) (.cells #[.int .i64 0, .int .i64 0, .int .i64 0, .int .i64 0, .int .i64 0, .int .i64 0, .int .i64 0] 57)
      simpa using this
    have hGU0 : Hid ((((w.alloc (.cells #[.int .i64 t.proto, .int .i64 t.src, .int .i64 t.sport, .int .i64 t.dst, .int .i64 t.dport, .int .i64 t.kind] 52)).alloc (.cells #[.slice b used.length cap2] 53)).alloc (.cells #[.int .i64 0, .int .i64 0, .int .i64 0, .int .i64 0, .int .i64 0, .int .i64 0, .int .i64 0] 57)).heap[w.heap.size + 1]? = some (.cells #[.slice b used.length cap2] 53)) := by
      show _ = _
      have := blk_alloc (heap_newG (w.alloc (.cells #[.int .i64 t.proto, .int .i64 t.src, .int .i64 t.sport, .int .i64 t.dst, .int .i64 t.dport, .int .i64 t.kind] 52)) (.cells #[.slice b used.length cap2] 53)) (.cells #[.int .i64 0, .int .i64 0, .int .i64 0, .int .i64 0, .int .i64 0, .int .i64 0, .int .i64 0] 57)
      simpa using this
    have hGO0 : Hid ((((w.alloc (.cells #[.int .i64 t.proto, .int .i64 t.src, .int .i64 t.sport, .int .i64 t.dst, .int .i64 t.dport, .int .i64 t.kind] 52)).alloc (.cells #[.slice b used.length cap2] 53)).alloc (.cells #[.int .i64 0, .int .i64 0, .int .i64 0, .int .i64 0, .int .i64 0, .int .i64 0, .int .i64 0] 57)).heap[w.heap.size + 2]? = some (.cells #[.int .i64 0, .int .i64 0, .int .i64 0, .int .i64 0, .int .i64 0, .int .i64 0, .int .i64 0] 57)) := by
      show _ = _
      have := heap_newG ((w.alloc (.cells #[.int .i64 t.proto, .int .i64 t.src, .int .i64 t.sport, .int .i64 t.dst, .int .i64 t.dport, .int .i64 t.kind] 52)).alloc (.cells #[.slice b used.length cap2] 53)) (.cells #[.int .i64 0, .int .i64 0, .int .i64 0, .int .i64 0, .int .i64 0, .int .i64 0, .int .i64 0] 57)
      simpa using this
    have hL0 := hidS ((((Below.refl w.heap.size w).alloc (Nat.le_refl _) (.cells #[.int .i64 t.proto, .int .i64 t.src, .int .i64 t.sport, .int .i64 t.dst, .int .i64 t.dport, .int .i64 t.kind] 52)).alloc (by simp) (.cells #[.slice b used.length cap2] 53)).alloc (by simp; omega) (.cells #[.int .i64 0, .int .i64 0, .int .i64 0, .int .i64 0, .int .i64 0, .int .i64 0, .int .i64 0] 57))
    go_enter Try.func21, Try.ntmps21
    go_upto_region 1 with fail
    generalize (((w.alloc (.cells #[.int .i64 t.proto, .int .i64 t.src, .int .i64 t.sport, .int .i64 t.dst, .int .i64 t.dport, .int .i64 t.kind] 52)).alloc (.cells #[.slice b used.length cap2] 53)).alloc (.cells #[.int .i64 0, .int .i64 0, .int .i64 0, .int .i64 0, .int .i64 0, .int .i64 0, .int .i64 0] 57)) = w0 at hGT0 hGU0 hGO0 hL0 ⊢
    have cU0 := blk_cell hGU0.out 0
    simp at cU0
    have kO := blk_cell hGO0.out
    have fO := blk_free hGO0.out
    go_wp2_with fail
    refine bodyPost_ret (v := .agg #[.int .i64 0, .int .i64 0, .int .i64 0, .int .i64 0, .int .i64 0, .int .i64 0, .int .i64 2]) (by simp [results, Try.results21, go_sem, *]) rfl ⟨by rw [E.out.1, E.out.2]; rfl, ?_⟩
    repeat (refine below_at ?_ (by omega))
    exact hL0.out
  by_cases q2 : (400 : Int) < (used.length : Int)
  · have hsz : 400 < l.length ∨ 400 < used.length := by omega
    have E := hidS (goes_size (t := t) (start := start) hsz)
    have hGT0 : Hid ((((w.alloc (.cells #[.int .i64 t.proto, .int .i64 t.src, .int .i64 t.sport, .int .i64 t.dst, .int .i64 t.dport, .int .i64 t.kind] 52)).alloc (.cells #[.slice b used.length cap2] 53)).alloc (.cells #[.int .i64 0, .int .i64 0, .int .i64 0, .int .i64 0, .int .i64 0, .int .i64 0, .int .i64 0] 57)).heap[w.heap.size]? = some (.cells #[.int .i64 t.proto, .int .i64 t.src, .int .i64 t.sport, .int .i64 t.dst, .int .i64 t.dport, .int .i64 t.kind] 52)) := by
      show _ = _
      have := blk_alloc (blk_alloc (heap_newG w (.cells #[.int .i64 t.proto, .int .i64 t.src, .int .i64 t.sport, .int .i64 t.dst, .int .i64 t.dport, .int .i64 t.kind] 52)) (.cells #[.slice b used.length cap2] 53)) (.cells #[.int .i64 0, .int .i64 0, .int .i64 0, .int .i64 0, .int .i64 0, .int .i64 0, .int .i64 0] 57)
      simpa using this
    have hGU0 : Hid ((((w.alloc (.cells #[.int .i64 t.proto, .int .i64 t.src, .int .i64 t.sport, .int .i64 t.dst, .int .i64 t.dport, .int .i64 t.kind] 52)).alloc (.cells #[.slice b used.length cap2] 53)).alloc (.cells #[.int .i64 0, .int .i64 0, .int .i64 0, .int .i64 0, .int .i64 0, .int .i64 0, .int .i64 0] 57)).heap[w.heap.size + 1]? = some (.cells #[.slice b used.length cap2] 53)) := by
      show _ = _
      have := blk_alloc (heap_newG (w.alloc (.cells #[.int .i64 t.proto, .int .i64 t.src, .int .i64 t.sport, .int .i64 t.dst, .int .i64 t.dport, .int .i64 t.kind] 52)) (.cells #[.slice b used.length cap2] 53)) (.cells #[.int .i64 0, .int .i64 0, .int .i64 0, .int .i64 0, .int .i64 0, .int .i64 0, .int .i64 0] 57)
      simpa using this
    have hGO0 : Hid ((((w.alloc (.cells #[.int .i64 t.proto, .int .i64 t.src, .int .i64 t.sport, .int .i64 t.dst, .int .i64 t.dport, .int .i64 t.kind] 52)).alloc (.cells #[.slice b used.length cap2] 53)).alloc (.cells #[.int .i64 0, .int .i64 0, .int .i64 0, .int .i64 0, .int .i64 0, .int .i64 0, .int .i64 0] 57)).heap[w.heap.size + 2]? = some (.cells #[.int .i64 0, .int .i64 0, .int .i64 0, .int .i64 0, .int .i64 0, .int .i64 0, .int .i64 0] 57)) := by
      show _ = _
      have := heap_newG ((w.alloc (.cells #[.int .i64 t.proto, .int .i64 t.src, .int .i64 t.sport, .int .i64 t.dst, .int .i64 t.dport, .int .i64 t.kind] 52)).alloc (.cells #[.slice b used.length cap2] 53)) (.cells #[.int .i64 0, .int .i64 0, .int .i64 0, .int .i64 0, .int .i64 0, .int .i64 0, .int .i64 0] 57)
      simpa using this
    have hL0 := hidS ((((Below.refl w.heap.size w).alloc (Nat.le_refl _) (.cells #[.int .i64 t.proto, .int .i64 t.src, .int .i64 t.sport, .int .i64 t.dst, .int .i64 t.dport, .int .i64 t.kind] 52)).alloc (by simp) (.cells #[.slice b used.length cap2] 53)).alloc (by simp; omega) (.cells #[.int .i64 0, .int .i64 0, .int .i64 0, .int .i64 0, .int .i64 0, .int .i64 0, .int .i64 0] 57))
    go_enter Try.func21, Try.ntmps21
    go_upto_region 1 with fail
    generalize (((w.alloc (.cells #[.int .i64 t.proto, .int .i64 t.src, .int .i64 t.sport, .int .i64 t.dst, .int .i64 t.dport, .int .i64 t.kind] 52)).alloc (.cells #[.slice b used.length cap2] 53)).alloc (.cells #[.int .i64 0, .int .i64 0, .int .i64 0, .int .i64 0, .int .i64 0, .int .i64 0, .int .i64 0] 57)) = w0 at hGT0 hGU0 hGO0 hL0 ⊢
    have cU0 := blk_cell hGU0.out 0
    simp at cU0
    have kO := blk_cell hGO0.out
    have fO := blk_free hGO0.out
    go_wp2_with fail
    refine bodyPost_ret (v := .agg #[.int .i64 0, .int .i64 0, .int .i64 0, .int .i64 0, .int .i64 0, .int .i64 0, .int .i64 2]) (by simp [results, Try.results21, go_sem, *]) rfl ⟨by rw [E.out.1, E.out.2]; rfl, ?_⟩
    repeat (refine below_at ?_ (by omega))
    exact hL0.out
  have hsz : ¬ (400 < l.length ∨ 400 < used.length) := by omega
  cases h1 : rulesB l
  · have E := hidS (goes_form hsz (hOK.out.trans (by rw [h1] <;> simp)))
    have hGT0 : Hid ((((w.alloc (.cells #[.int .i64 t.proto, .int .i64 t.src, .int .i64 t.sport, .int .i64 t.dst, .int .i64 t.dport, .int .i64 t.kind] 52)).alloc (.cells #[.slice b used.length cap2] 53)).alloc (.cells #[.int .i64 0, .int .i64 0, .int .i64 0, .int .i64 0, .int .i64 0, .int .i64 0, .int .i64 0] 57)).heap[w.heap.size]? = some (.cells #[.int .i64 t.proto, .int .i64 t.src, .int .i64 t.sport, .int .i64 t.dst, .int .i64 t.dport, .int .i64 t.kind] 52)) := by
      show _ = _
      have := blk_alloc (blk_alloc (heap_newG w (.cells #[.int .i64 t.proto, .int .i64 t.src, .int .i64 t.sport, .int .i64 t.dst, .int .i64 t.dport, .int .i64 t.kind] 52)) (.cells #[.slice b used.length cap2] 53)) (.cells #[.int .i64 0, .int .i64 0, .int .i64 0, .int .i64 0, .int .i64 0, .int .i64 0, .int .i64 0] 57)
      simpa using this
    have hGU0 : Hid ((((w.alloc (.cells #[.int .i64 t.proto, .int .i64 t.src, .int .i64 t.sport, .int .i64 t.dst, .int .i64 t.dport, .int .i64 t.kind] 52)).alloc (.cells #[.slice b used.length cap2] 53)).alloc (.cells #[.int .i64 0, .int .i64 0, .int .i64 0, .int .i64 0, .int .i64 0, .int .i64 0, .int .i64 0] 57)).heap[w.heap.size + 1]? = some (.cells #[.slice b used.length cap2] 53)) := by
      show _ = _
      have := blk_alloc (heap_newG (w.alloc (.cells #[.int .i64 t.proto, .int .i64 t.src, .int .i64 t.sport, .int .i64 t.dst, .int .i64 t.dport, .int .i64 t.kind] 52)) (.cells #[.slice b used.length cap2] 53)) (.cells #[.int .i64 0, .int .i64 0, .int .i64 0, .int .i64 0, .int .i64 0, .int .i64 0, .int .i64 0] 57)
      simpa using this
    have hGO0 : Hid ((((w.alloc (.cells #[.int .i64 t.proto, .int .i64 t.src, .int .i64 t.sport, .int .i64 t.dst, .int .i64 t.dport, .int .i64 t.kind] 52)).alloc (.cells #[.slice b used.length cap2] 53)).alloc (.cells #[.int .i64 0, .int .i64 0, .int .i64 0, .int .i64 0, .int .i64 0, .int .i64 0, .int .i64 0] 57)).heap[w.heap.size + 2]? = some (.cells #[.int .i64 0, .int .i64 0, .int .i64 0, .int .i64 0, .int .i64 0, .int .i64 0, .int .i64 0] 57)) := by
      show _ = _
      have := heap_newG ((w.alloc (.cells #[.int .i64 t.proto, .int .i64 t.src, .int .i64 t.sport, .int .i64 t.dst, .int .i64 t.dport, .int .i64 t.kind] 52)).alloc (.cells #[.slice b used.length cap2] 53)) (.cells #[.int .i64 0, .int .i64 0, .int .i64 0, .int .i64 0, .int .i64 0, .int .i64 0, .int .i64 0] 57)
      simpa using this
    have hL0 := hidS ((((Below.refl w.heap.size w).alloc (Nat.le_refl _) (.cells #[.int .i64 t.proto, .int .i64 t.src, .int .i64 t.sport, .int .i64 t.dst, .int .i64 t.dport, .int .i64 t.kind] 52)).alloc (by simp) (.cells #[.slice b used.length cap2] 53)).alloc (by simp; omega) (.cells #[.int .i64 0, .int .i64 0, .int .i64 0, .int .i64 0, .int .i64 0, .int .i64 0, .int .i64 0] 57))
    go_enter Try.func21, Try.ntmps21
    go_upto_region 1 with fail
    generalize (((w.alloc (.cells #[.int .i64 t.proto, .int .i64 t.src, .int .i64 t.sport, .int .i64 t.dst, .int .i64 t.dport, .int .i64 t.kind] 52)).alloc (.cells #[.slice b used.length cap2] 53)).alloc (.cells #[.int .i64 0, .int .i64 0, .int .i64 0, .int .i64 0, .int .i64 0, .int .i64 0, .int .i64 0] 57)) = w0 at hGT0 hGU0 hGO0 hL0 ⊢
    have cU0 := blk_cell hGU0.out 0
    simp at cU0
    go_wp2_with fail
    refine (HRR.out _ hL0.out).mono ?_
    rintro _ w1 ⟨rfl, hb1⟩
    clear cU0
    have hGT1 := hidS (blk_later hGT0.out hb1)
    have hGU1 := hidS (blk_later hGU0.out hb1)
    have hGO1 := hidS (blk_later hGO0.out hb1)
    have hL1 := hidS (hL0.out.trans (hb1.mono hL0.out.size))
    clear hb1 hL0 hGT0 hGU0 hGO0
    rw [h1]
    have kO := blk_cell hGO1.out
    have fO := blk_free hGO1.out
    go_wp2_with fail
    refine bodyPost_ret (v := .agg #[.int .i64 0, .int .i64 0, .int .i64 0, .int .i64 0, .int .i64 0, .int .i64 0, .int .i64 1]) (by simp [results, Try.results21, go_sem, *]) rfl ⟨by rw [E.out.1, E.out.2]; rfl, ?_⟩
    repeat (refine below_at ?_ (by omega))
    exact hL1.out
  cases h2 : rightT t
  · have E := hidS (goes_form hsz (hOK.out.trans (by rw [h2] <;> simp)))
    have hGT0 : Hid ((((w.alloc (.cells #[.int .i64 t.proto, .int .i64 t.src, .int .i64 t.sport, .int .i64 t.dst, .int .i64 t.dport, .int .i64 t.kind] 52)).alloc (.cells #[.slice b used.length cap2] 53)).alloc (.cells #[.int .i64 0, .int .i64 0, .int .i64 0, .int .i64 0, .int .i64 0, .int .i64 0, .int .i64 0] 57)).heap[w.heap.size]? = some (.cells #[.int .i64 t.proto, .int .i64 t.src, .int .i64 t.sport, .int .i64 t.dst, .int .i64 t.dport, .int .i64 t.kind] 52)) := by
      show _ = _
      have := blk_alloc (blk_alloc (heap_newG w (.cells #[.int .i64 t.proto, .int .i64 t.src, .int .i64 t.sport, .int .i64 t.dst, .int .i64 t.dport, .int .i64 t.kind] 52)) (.cells #[.slice b used.length cap2] 53)) (.cells #[.int .i64 0, .int .i64 0, .int .i64 0, .int .i64 0, .int .i64 0, .int .i64 0, .int .i64 0] 57)
      simpa using this
    have hGU0 : Hid ((((w.alloc (.cells #[.int .i64 t.proto, .int .i64 t.src, .int .i64 t.sport, .int .i64 t.dst, .int .i64 t.dport, .int .i64 t.kind] 52)).alloc (.cells #[.slice b used.length cap2] 53)).alloc (.cells #[.int .i64 0, .int .i64 0, .int .i64 0, .int .i64 0, .int .i64 0, .int .i64 0, .int .i64 0] 57)).heap[w.heap.size + 1]? = some (.cells #[.slice b used.length cap2] 53)) := by
      show _ = _
      have := blk_alloc (heap_newG (w.alloc (.cells #[.int .i64 t.proto, .int .i64 t.src, .int .i64 t.sport, .int .i64 t.dst, .int .i64 t.dport, .int .i64 t.kind] 52)) (.cells #[.slice b used.length cap2] 53)) (.cells #[.int .i64 0, .int .i64 0, .int .i64 0, .int .i64 0, .int .i64 0, .int .i64 0, .int .i64 0] 57)
      simpa using this
    have hGO0 : Hid ((((w.alloc (.cells #[.int .i64 t.proto, .int .i64 t.src, .int .i64 t.sport, .int .i64 t.dst, .int .i64 t.dport, .int .i64 t.kind] 52)).alloc (.cells #[.slice b used.length cap2] 53)).alloc (.cells #[.int .i64 0, .int .i64 0, .int .i64 0, .int .i64 0, .int .i64 0, .int .i64 0, .int .i64 0] 57)).heap[w.heap.size + 2]? = some (.cells #[.int .i64 0, .int .i64 0, .int .i64 0, .int .i64 0, .int .i64 0, .int .i64 0, .int .i64 0] 57)) := by
      show _ = _
      have := heap_newG ((w.alloc (.cells #[.int .i64 t.proto, .int .i64 t.src, .int .i64 t.sport, .int .i64 t.dst, .int .i64 t.dport, .int .i64 t.kind] 52)).alloc (.cells #[.slice b used.length cap2] 53)) (.cells #[.int .i64 0, .int .i64 0, .int .i64 0, .int .i64 0, .int .i64 0, .int .i64 0, .int .i64 0] 57)
      simpa using this
    have hL0 := hidS ((((Below.refl w.heap.size w).alloc (Nat.le_refl _) (.cells #[.int .i64 t.proto, .int .i64 t.src, .int .i64 t.sport, .int .i64 t.dst, .int .i64 t.dport, .int .i64 t.kind] 52)).alloc (by simp) (.cells #[.slice b used.length cap2] 53)).alloc (by simp; omega) (.cells #[.int .i64 0, .int .i64 0, .int .i64 0, .int .i64 0, .int .i64 0, .int .i64 0, .int .i64 0] 57))
    go_enter Try.func21, Try.ntmps21
    go_upto_region 1 with fail
    generalize (((w.alloc (.cells #[.int .i64 t.proto, .int .i64 t.src, .int .i64 t.sport, .int .i64 t.dst, .int .i64 t.dport, .int .i64 t.kind] 52)).alloc (.cells #[.slice b used.length cap2] 53)).alloc (.cells #[.int .i64 0, .int .i64 0, .int .i64 0, .int .i64 0, .int .i64 0, .int .i64 0, .int .i64 0] 57)) = w0 at hGT0 hGU0 hGO0 hL0 ⊢
    have cU0 := blk_cell hGU0.out 0
    simp at cU0
    go_wp2_with fail
    refine (HRR.out _ hL0.out).mono ?_
    rintro _ w1 ⟨rfl, hb1⟩
    clear cU0
    have hGT1 := hidS (blk_later hGT0.out hb1)
    have hGU1 := hidS (blk_later hGU0.out hb1)
    have hGO1 := hidS (blk_later hGO0.out hb1)
    have hL1 := hidS (hL0.out.trans (hb1.mono hL0.out.size))
    clear hb1 hL0 hGT0 hGU0 hGO0
    rw [h1]
    have cT0 := blk_cell hGT1.out 0
    have cT1 := blk_cell hGT1.out 1
    have cT2 := blk_cell hGT1.out 2
    have cT3 := blk_cell hGT1.out 3
    have cT4 := blk_cell hGT1.out 4
    have cT5 := blk_cell hGT1.out 5
    simp at cT0 cT1 cT2 cT3 cT4 cT5
    go_wp2_with fail
    refine (HTT.out _).mono ?_
    rintro _ w2 ⟨rfl, hb2⟩
    clear cT0 cT1 cT2 cT3 cT4 cT5
    have hGT2 := hidS (blk_later hGT1.out hb2)
    have hGU2 := hidS (blk_later hGU1.out hb2)
    have hGO2 := hidS (blk_later hGO1.out hb2)
    have hL2 := hidS (hL1.out.trans (hb2.mono hL1.out.size))
    clear hb2 hL1 hGT1 hGU1 hGO1
    rw [h2]
    have kO := blk_cell hGO2.out
    have fO := blk_free hGO2.out
    go_wp2_with fail
    refine bodyPost_ret (v := .agg #[.int .i64 0, .int .i64 0, .int .i64 0, .int .i64 0, .int .i64 0, .int .i64 0, .int .i64 1]) (by simp [results, Try.results21, go_sem, *]) rfl ⟨by rw [E.out.1, E.out.2]; rfl, ?_⟩
    repeat (refine below_at ?_ (by omega))
    exact hL2.out
  cases h3 : tmB start
  · have E := hidS (goes_form hsz (hOK.out.trans (by rw [h3] <;> simp)))
    have hGT0 : Hid ((((w.alloc (.cells #[.int .i64 t.proto, .int .i64 t.src, .int .i64 t.sport, .int .i64 t.dst, .int .i64 t.dport, .int .i64 t.kind] 52)).alloc (.cells #[.slice b used.length cap2] 53)).alloc (.cells #[.int .i64 0, .int .i64 0, .int .i64 0, .int .i64 0, .int .i64 0, .int .i64 0, .int .i64 0] 57)).heap[w.heap.size]? = some (.cells #[.int .i64 t.proto, .int .i64 t.src, .int .i64 t.sport, .int .i64 t.dst, .int .i64 t.dport, .int .i64 t.kind] 52)) := by
      show _ = _
      have := blk_alloc (blk_alloc (heap_newG w (.cells #[.int .i64 t.proto, .int .i64 t.src, .int .i64 t.sport, .int .i64 t.dst, .int .i64 t.dport, .int .i64 t.kind] 52)) (.cells #[.slice b used.length cap2] 53)) (.cells #[.int .i64 0, .int .i64 0, .int .i64 0, .int .i64 0, .int .i64 0, .int .i64 0, .int .i64 0] 57)
      simpa using this
    have hGU0 : Hid ((((w.alloc (.cells #[.int .i64 t.proto, .int .i64 t.src, .int .i64 t.sport, .int .i64 t.dst, .int .i64 t.dport, .int .i64 t.kind] 52)).alloc (.cells #[.slice b used.length cap2] 53)).alloc (.cells #[.int .i64 0, .int .i64 0, .int .i64 0, .int .i64 0, .int .i64 0, .int .i64 0, .int .i64 0] 57)).heap[w.heap.size + 1]? = some (.cells #[.slice b used.length cap2] 53)) := by
      show _ = _
      have := blk_alloc (heap_newG (w.alloc (.cells #[.int .i64 t.proto, .int .i64 t.src, .int .i64 t.sport, .int .i64 t.dst, .int .i64 t.dport, .int .i64 t.kind] 52)) (.cells #[.slice b used.length cap2] 53)) (.cells #[.int .i64 0, .int .i64 0, .int .i64 0, .int .i64 0, .int .i64 0, .int .i64 0, .int .i64 0] 57)
      simpa using this
    have hGO0 : Hid ((((w.alloc (.cells #[.int .i64 t.proto, .int .i64 t.src, .int .i64 t.sport, .int .i64 t.dst, .int .i64 t.dport, .int .i64 t.kind] 52)).alloc (.cells #[.slice b used.length cap2] 53)).alloc (.cells #[.int .i64 0, .int .i64 0, .int .i64 0, .int .i64 0, .int .i64 0, .int .i64 0, .int .i64 0] 57)).heap[w.heap.size + 2]? = some (.cells #[.int .i64 0, .int .i64 0, .int .i64 0, .int .i64 0, .int .i64 0, .int .i64 0, .int .i64 0] 57)) := by
      show _ = _
      have := heap_newG ((w.alloc (.cells #[.int .i64 t.proto, .int .i64 t.src, .int .i64 t.sport, .int .i64 t.dst, .int .i64 t.dport, .int .i64 t.kind] 52)).alloc (.cells #[.slice b used.length cap2] 53)) (.cells #[.int .i64 0, .int .i64 0, .int .i64 0, .int .i64 0, .int .i64 0, .int .i64 0, .int .i64 0] 57)
      simpa using this
    have hL0 := hidS ((((Below.refl w.heap.size w).alloc (Nat.le_refl _) (.cells #[.int .i64 t.proto, .int .i64 t.src, .int .i64 t.sport, .int .i64 t.dst, .int .i64 t.dport, .int .i64 t.kind] 52)).alloc (by simp) (.cells #[.slice b used.length cap2] 53)).alloc (by simp; omega) (.cells #[.int .i64 0, .int .i64 0, .int .i64 0, .int .i64 0, .int .i64 0, .int .i64 0, .int .i64 0] 57))
    go_enter Try.func21, Try.ntmps21
    go_upto_region 1 with fail
    generalize (((w.alloc (.cells #[.int .i64 t.proto, .int .i64 t.src, .int .i64 t.sport, .int .i64 t.dst, .int .i64 t.dport, .int .i64 t.kind] 52)).alloc (.cells #[.slice b used.length cap2] 53)).alloc (.cells #[.int .i64 0, .int .i64 0, .int .i64 0, .int .i64 0, .int .i64 0, .int .i64 0, .int .i64 0] 57)) = w0 at hGT0 hGU0 hGO0 hL0 ⊢
    have cU0 := blk_cell hGU0.out 0
    simp at cU0
    go_wp2_with fail
    refine (HRR.out _ hL0.out).mono ?_
    rintro _ w1 ⟨rfl, hb1⟩
    clear cU0
    have hGT1 := hidS (blk_later hGT0.out hb1)
    have hGU1 := hidS (blk_later hGU0.out hb1)
    have hGO1 := hidS (blk_later hGO0.out hb1)
    have hL1 := hidS (hL0.out.trans (hb1.mono hL0.out.size))
    clear hb1 hL0 hGT0 hGU0 hGO0
    rw [h1]
    have cT0 := blk_cell hGT1.out 0
    have cT1 := blk_cell hGT1.out 1
    have cT2 := blk_cell hGT1.out 2
    have cT3 := blk_cell hGT1.out 3
    have cT4 := blk_cell hGT1.out 4
    have cT5 := blk_cell hGT1.out 5
    simp at cT0 cT1 cT2 cT3 cT4 cT5
    go_wp2_with fail
    refine (HTT.out _).mono ?_
    rintro _ w2 ⟨rfl, hb2⟩
    clear cT0 cT1 cT2 cT3 cT4 cT5
    have hGT2 := hidS (blk_later hGT1.out hb2)
    have hGU2 := hidS (blk_later hGU1.out hb2)
    have hGO2 := hidS (blk_later hGO1.out hb2)
    have hL2 := hidS (hL1.out.trans (hb2.mono hL1.out.size))
    clear hb2 hL1 hGT1 hGU1 hGO1
    rw [h2]
    go_wp2_with fail
    refine (areTm_one w2.heap.size start _ (blk_cell (heap_newG w2 (.cells #[.int .i64 start] 2)) 0)).mono ?_
    rintro _ v9 ⟨rfl, hv9⟩
    rw [hv9]
    clear hv9 v9
    have hGA3 := hidS (heap_newG w2 (.cells #[.int .i64 start] 2))
    have nA := blk_lt hGO2.out
    have hGT3 := hidS (blk_alloc hGT2.out (.cells #[.int .i64 start] 2))
    have hGU3 := hidS (blk_alloc hGU2.out (.cells #[.int .i64 start] 2))
    have hGO3 := hidS (blk_alloc hGO2.out (.cells #[.int .i64 start] 2))
    have hL3 := hidS (hL2.out.alloc hL2.out.size (.cells #[.int .i64 start] 2))
    clear hL2 hGT2 hGU2 hGO2
    generalize w2.alloc (.cells #[.int .i64 start] 2) = w3 at hGT3 hGU3 hGO3 hGA3 hL3 ⊢
    rw [h3]
    have cU0 := blk_cell hGU3.out 0
    simp at cU0
    have kO := blk_cell hGO3.out
    have fO := blk_free hGO3.out
    go_wp2_with fail
    refine bodyPost_ret (v := .agg #[.int .i64 0, .int .i64 0, .int .i64 0, .int .i64 0, .int .i64 0, .int .i64 0, .int .i64 1]) (by simp [results, Try.results21, go_sem, *]) rfl ⟨by rw [E.out.1, E.out.2]; rfl, ?_⟩
    repeat (refine below_at ?_ (by omega))
    exact hL3.out
  by_cases q3 : (60 : Int) < (used.length : Int)
  · have E := hidS (goes_form hsz (hOK.out.trans (by rw [show decide (used.length ≤ 60) = false by simp; omega] <;> simp)))
    have hGT0 : Hid ((((w.alloc (.cells #[.int .i64 t.proto, .int .i64 t.src, .int .i64 t.sport, .int .i64 t.dst, .int .i64 t.dport, .int .i64 t.kind] 52)).alloc (.cells #[.slice b used.length cap2] 53)).alloc (.cells #[.int .i64 0, .int .i64 0, .int .i64 0, .int .i64 0, .int .i64 0, .int .i64 0, .int .i64 0] 57)).heap[w.heap.size]? = some (.cells #[.int .i64 t.proto, .int .i64 t.src, .int .i64 t.sport, .int .i64 t.dst, .int .i64 t.dport, .int .i64 t.kind] 52)) := by
      show _ = _
      have := blk_alloc (blk_alloc (heap_newG w (.cells #[.int .i64 t.proto, .int .i64 t.src, .int .i64 t.sport, .int .i64 t.dst, .int .i64 t.dport, .int .i64 t.kind] 52)) (.cells #[.slice b used.length cap2] 53)) (.cells #[.int .i64 0, .int .i64 0, .int .i64 0, .int .i64 0, .int .i64 0, .int .i64 0, .int .i64 0] 57)
      simpa using this
    have hGU0 : Hid ((((w.alloc (.cells #[.int .i64 t.proto, .int .i64 t.src, .int .i64 t.sport, .int .i64 t.dst, .int .i64 t.dport, .int .i64 t.kind] 52)).alloc (.cells #[.slice b used.length cap2] 53)).alloc (.cells #[.int .i64 0, .int .i64 0, .int .i64 0, .int .i64 0, .int .i64 0, .int .i64 0, .int .i64 0] 57)).heap[w.heap.size + 1]? = some (.cells #[.slice b used.length cap2] 53)) := by
      show _ = _
      have := blk_alloc (heap_newG (w.alloc (.cells #[.int .i64 t.proto, .int .i64 t.src, .int .i64 t.sport, .int .i64 t.dst, .int .i64 t.dport, .int .i64 t.kind] 52)) (.cells #[.slice b used.length cap2] 53)) (.cells #[.int .i64 0, .int .i64 0, .int .i64 0, .int .i64 0, .int .i64 0, .int .i64 0, .int .i64 0] 57)
      simpa using this
    have hGO0 : Hid ((((w.alloc (.cells #[.int .i64 t.proto, .int .i64 t.src, .int .i64 t.sport, .int .i64 t.dst, .int .i64 t.dport, .int .i64 t.kind] 52)).alloc (.cells #[.slice b used.length cap2] 53)).alloc (.cells #[.int .i64 0, .int .i64 0, .int .i64 0, .int .i64 0, .int .i64 0, .int .i64 0, .int .i64 0] 57)).heap[w.heap.size + 2]? = some (.cells #[.int .i64 0, .int .i64 0, .int .i64 0, .int .i64 0, .int .i64 0, .int .i64 0, .int .i64 0] 57)) := by
      show _ = _
      have := heap_newG ((w.alloc (.cells #[.int .i64 t.proto, .int .i64 t.src, .int .i64 t.sport, .int .i64 t.dst, .int .i64 t.dport, .int .i64 t.kind] 52)).alloc (.cells #[.slice b used.length cap2] 53)) (.cells #[.int .i64 0, .int .i64 0, .int .i64 0, .int .i64 0, .int .i64 0, .int .i64 0, .int .i64 0] 57)
      simpa using this
    have hL0 := hidS ((((Below.refl w.heap.size w).alloc (Nat.le_refl _) (.cells #[.int .i64 t.proto, .int .i64 t.src, .int .i64 t.sport, .int .i64 t.dst, .int .i64 t.dport, .int .i64 t.kind] 52)).alloc (by simp) (.cells #[.slice b used.length cap2] 53)).alloc (by simp; omega) (.cells #[.int .i64 0, .int .i64 0, .int .i64 0, .int .i64 0, .int .i64 0, .int .i64 0, .int .i64 0] 57))
    go_enter Try.func21, Try.ntmps21
    go_upto_region 1 with fail
    generalize (((w.alloc (.cells #[.int .i64 t.proto, .int .i64 t.src, .int .i64 t.sport, .int .i64 t.dst, .int .i64 t.dport, .int .i64 t.kind] 52)).alloc (.cells #[.slice b used.length cap2] 53)).alloc (.cells #[.int .i64 0, .int .i64 0, .int .i64 0, .int .i64 0, .int .i64 0, .int .i64 0, .int .i64 0] 57)) = w0 at hGT0 hGU0 hGO0 hL0 ⊢
    have cU0 := blk_cell hGU0.out 0
    simp at cU0
    go_wp2_with fail
    refine (HRR.out _ hL0.out).mono ?_
    rintro _ w1 ⟨rfl, hb1⟩
    clear cU0
    have hGT1 := hidS (blk_later hGT0.out hb1)
    have hGU1 := hidS (blk_later hGU0.out hb1)
    have hGO1 := hidS (blk_later hGO0.out hb1)
    have hL1 := hidS (hL0.out.trans (hb1.mono hL0.out.size))
    clear hb1 hL0 hGT0 hGU0 hGO0
    rw [h1]
    have cT0 := blk_cell hGT1.out 0
    have cT1 := blk_cell hGT1.out 1
    have cT2 := blk_cell hGT1.out 2
    have cT3 := blk_cell hGT1.out 3
    have cT4 := blk_cell hGT1.out 4
    have cT5 := blk_cell hGT1.out 5
    simp at cT0 cT1 cT2 cT3 cT4 cT5
    go_wp2_with fail
    refine (HTT.out _).mono ?_
    rintro _ w2 ⟨rfl, hb2⟩
    clear cT0 cT1 cT2 cT3 cT4 cT5
    have hGT2 := hidS (blk_later hGT1.out hb2)
    have hGU2 := hidS (blk_later hGU1.out hb2)
    have hGO2 := hidS (blk_later hGO1.out hb2)
    have hL2 := hidS (hL1.out.trans (hb2.mono hL1.out.size))
    clear hb2 hL1 hGT1 hGU1 hGO1
    rw [h2]
    go_wp2_with fail
    refine (areTm_one w2.heap.size start _ (blk_cell (heap_newG w2 (.cells #[.int .i64 start] 2)) 0)).mono ?_
    rintro _ v9 ⟨rfl, hv9⟩
    rw [hv9]
    clear hv9 v9
    have hGA3 := hidS (heap_newG w2 (.cells #[.int .i64 start] 2))
    have nA := blk_lt hGO2.out
    have hGT3 := hidS (blk_alloc hGT2.out (.cells #[.int .i64 start] 2))
    have hGU3 := hidS (blk_alloc hGU2.out (.cells #[.int .i64 start] 2))
    have hGO3 := hidS (blk_alloc hGO2.out (.cells #[.int .i64 start] 2))
    have hL3 := hidS (hL2.out.alloc hL2.out.size (.cells #[.int .i64 start] 2))
    clear hL2 hGT2 hGU2 hGO2
    generalize w2.alloc (.cells #[.int .i64 start] 2) = w3 at hGT3 hGU3 hGO3 hGA3 hL3 ⊢
    rw [h3]
    have cU0 := blk_cell hGU3.out 0
    simp at cU0
    have kO := blk_cell hGO3.out
    have fO := blk_free hGO3.out
    go_wp2_with fail
    refine bodyPost_ret (v := .agg #[.int .i64 0, .int .i64 0, .int .i64 0, .int .i64 0, .int .i64 0, .int .i64 0, .int .i64 1]) (by simp [results, Try.results21, go_sem, *]) rfl ⟨by rw [E.out.1, E.out.2]; rfl, ?_⟩
    repeat (refine below_at ?_ (by omega))
    exact hL3.out
  cases h4 : allT used
  · have E := hidS (goes_form hsz (hOK.out.trans (by rw [h4] <;> simp)))
    have hGT0 : Hid ((((w.alloc (.cells #[.int .i64 t.proto, .int .i64 t.src, .int .i64 t.sport, .int .i64 t.dst, .int .i64 t.dport, .int .i64 t.kind] 52)).alloc (.cells #[.slice b used.length cap2] 53)).alloc (.cells #[.int .i64 0, .int .i64 0, .int .i64 0, .int .i64 0, .int .i64 0, .int .i64 0, .int .i64 0] 57)).heap[w.heap.size]? = some (.cells #[.int .i64 t.proto, .int .i64 t.src, .int .i64 t.sport, .int .i64 t.dst, .int .i64 t.dport, .int .i64 t.kind] 52)) := by
      show _ = _
      have := blk_alloc (blk_alloc (heap_newG w (.cells #[.int .i64 t.proto, .int .i64 t.src, .int .i64 t.sport, .int .i64 t.dst, .int .i64 t.dport, .int .i64 t.kind] 52)) (.cells #[.slice b used.length cap2] 53)) (.cells #[.int .i64 0, .int .i64 0, .int .i64 0, .int .i64 0, .int .i64 0, .int .i64 0, .int .i64 0] 57)
      simpa using this
    have hGU0 : Hid ((((w.alloc (.cells #[.int .i64 t.proto, .int .i64 t.src, .int .i64 t.sport, .int .i64 t.dst, .int .i64 t.dport, .int .i64 t.kind] 52)).alloc (.cells #[.slice b used.length cap2] 53)).alloc (.cells #[.int .i64 0, .int .i64 0, .int .i64 0, .int .i64 0, .int .i64 0, .int .i64 0, .int .i64 0] 57)).heap[w.heap.size + 1]? = some (.cells #[.slice b used.length cap2] 53)) := by
      show _ = _
      have := blk_alloc (heap_newG (w.alloc (.cells #[.int .i64 t.proto, .int .i64 t.src, .int .i64 t.sport, .int .i64 t.dst, .int .i64 t.dport, .int .i64 t.kind] 52)) (.cells #[.slice b used.length cap2] 53)) (.cells #[.int .i64 0, .int .i64 0, .int .i64 0, .int .i64 0, .int .i64 0, .int .i64 0, .int .i64 0] 57)
      simpa using this
    have hGO0 : Hid ((((w.alloc (.cells #[.int .i64 t.proto, .int .i64 t.src, .int .i64 t.sport, .int .i64 t.dst, .int .i64 t.dport, .int .i64 t.kind] 52)).alloc (.cells #[.slice b used.length cap2] 53)).alloc (.cells #[.int .i64 0, .int .i64 0, .int .i64 0, .int .i64 0, .int .i64 0, .int .i64 0, .int .i64 0] 57)).heap[w.heap.size + 2]? = some (.cells #[.int .i64 0, .int .i64 0, .int .i64 0, .int .i64 0, .int .i64 0, .int .i64 0, .int .i64 0] 57)) := by
      show _ = _
      have := heap_newG ((w.alloc (.cells #[.int .i64 t.proto, .int .i64 t.src, .int .i64 t.sport, .int .i64 t.dst, .int .i64 t.dport, .int .i64 t.kind] 52)).alloc (.cells #[.slice b used.length cap2] 53)) (.cells #[.int .i64 0, .int .i64 0, .int .i64 0, .int .i64 0, .int .i64 0, .int .i64 0, .int .i64 0] 57)
      simpa using this
    have hL0 := hidS ((((Below.refl w.heap.size w).alloc (Nat.le_refl _) (.cells #[.int .i64 t.proto, .int .i64 t.src, .int .i64 t.sport, .int .i64 t.dst, .int .i64 t.dport, .int .i64 t.kind] 52)).alloc (by simp) (.cells #[.slice b used.length cap2] 53)).alloc (by simp; omega) (.cells #[.int .i64 0, .int .i64 0, .int .i64 0, .int .i64 0, .int .i64 0, .int .i64 0, .int .i64 0] 57))
    go_enter Try.func21, Try.ntmps21
    go_upto_region 1 with fail
    generalize (((w.alloc (.cells #[.int .i64 t.proto, .int .i64 t.src, .int .i64 t.sport, .int .i64 t.dst, .int .i64 t.dport, .int .i64 t.kind] 52)).alloc (.cells #[.slice b used.length cap2] 53)).alloc (.cells #[.int .i64 0, .int .i64 0, .int .i64 0, .int .i64 0, .int .i64 0, .int .i64 0, .int .i64 0] 57)) = w0 at hGT0 hGU0 hGO0 hL0 ⊢
    have cU0 := blk_cell hGU0.out 0
    simp at cU0
    go_wp2_with fail
    refine (HRR.out _ hL0.out).mono ?_
    rintro _ w1 ⟨rfl, hb1⟩
    clear cU0
    have hGT1 := hidS (blk_later hGT0.out hb1)
    have hGU1 := hidS (blk_later hGU0.out hb1)
    have hGO1 := hidS (blk_later hGO0.out hb1)
    have hL1 := hidS (hL0.out.trans (hb1.mono hL0.out.size))
    clear hb1 hL0 hGT0 hGU0 hGO0
    rw [h1]
    have cT0 := blk_cell hGT1.out 0
    have cT1 := blk_cell hGT1.out 1
    have cT2 := blk_cell hGT1.out 2
    have cT3 := blk_cell hGT1.out 3
    have cT4 := blk_cell hGT1.out 4
    have cT5 := blk_cell hGT1.out 5
    simp at cT0 cT1 cT2 cT3 cT4 cT5
    go_wp2_with fail
    refine (HTT.out _).mono ?_
    rintro _ w2 ⟨rfl, hb2⟩
    clear cT0 cT1 cT2 cT3 cT4 cT5
    have hGT2 := hidS (blk_later hGT1.out hb2)
    have hGU2 := hidS (blk_later hGU1.out hb2)
    have hGO2 := hidS (blk_later hGO1.out hb2)
    have hL2 := hidS (hL1.out.trans (hb2.mono hL1.out.size))
    clear hb2 hL1 hGT1 hGU1 hGO1
    rw [h2]
    go_wp2_with fail
    refine (areTm_one w2.heap.size start _ (blk_cell (heap_newG w2 (.cells #[.int .i64 start] 2)) 0)).mono ?_
    rintro _ v9 ⟨rfl, hv9⟩
    rw [hv9]
    clear hv9 v9
    have hGA3 := hidS (heap_newG w2 (.cells #[.int .i64 start] 2))
    have nA := blk_lt hGO2.out
    have hGT3 := hidS (blk_alloc hGT2.out (.cells #[.int .i64 start] 2))
    have hGU3 := hidS (blk_alloc hGU2.out (.cells #[.int .i64 start] 2))
    have hGO3 := hidS (blk_alloc hGO2.out (.cells #[.int .i64 start] 2))
    have hL3 := hidS (hL2.out.alloc hL2.out.size (.cells #[.int .i64 start] 2))
    clear hL2 hGT2 hGU2 hGO2
    generalize w2.alloc (.cells #[.int .i64 start] 2) = w3 at hGT3 hGU3 hGO3 hGA3 hL3 ⊢
    rw [h3]
    have cU0 := blk_cell hGU3.out 0
    simp at cU0
    go_wp2_with fail
    refine (HAA.out _ hL3.out).mono ?_
    rintro _ w4 ⟨rfl, hb4⟩
    clear cU0
    have hGT4 := hidS (blk_later hGT3.out hb4)
    have hGU4 := hidS (blk_later hGU3.out hb4)
    have hGO4 := hidS (blk_later hGO3.out hb4)
    have hGA4 := hidS (blk_later hGA3.out hb4)
    have hL4 := hidS (hL3.out.trans (hb4.mono hL3.out.size))
    clear hb4 hL3 hGT3 hGU3 hGO3 hGA3
    rw [h4]
    have kO := blk_cell hGO4.out
    have fO := blk_free hGO4.out
    go_wp2_with fail
    refine bodyPost_ret (v := .agg #[.int .i64 0, .int .i64 0, .int .i64 0, .int .i64 0, .int .i64 0, .int .i64 0, .int .i64 1]) (by simp [results, Try.results21, go_sem, *]) rfl ⟨by rw [E.out.1, E.out.2]; rfl, ?_⟩
    repeat (refine below_at ?_ (by omega))
    exact hL4.out
  have E := hidS (goes_ok (t := t) (start := start) hsz (hOK.out.trans (by rw [h1, h2, h3, h4, show decide (used.length ≤ 60) = true by simp; omega] <;> simp)))
  have hal : allR l = true := by have h := h1; unfold rulesB at h; rw [Bool.and_eq_true] at h; exact h.2
  have hst : 0 ≤ start ∧ start ≤ 1000000 := by have h := h3; unfold tmB at h; simpa using h
  have hgr := hidS (goal_right hal h2)
  have HG := hidS (fun W (h : Below w.heap.size w W) => withGoal_any a cap l t W (HR.out.later h) hz hal h2)
  have HN := hidS (fun W => namesOf_any a cap l (goalT l t) start W)
  have HH := hidS (fun n Bl Bt Bq W (h : Below w.heap.size w W) hn h5 h6 h7 => names_hand n Bl Bt Bq a cap l (goalT l t) start W hn hal hgr.out hz hst.1 hst.2 h5 h6 h7 (HR.out.later h))
  have HM := hidS (names_right (start := start) hal hgr.out hst.1)
  have HF := hidS (goes_find l t start used)
  have HI := hidS (fun x W (h : Below w.heap.size w W) => isUsed_gen b cap2 used x W (HU.out.later h) hz2)
  clear hOK hal hst HR HU hgr
  generalize goalT l t = g at *
  generalize namesL l g start = L at *
  have hGT0 : Hid ((((w.alloc (.cells #[.int .i64 t.proto, .int .i64 t.src, .int .i64 t.sport, .int .i64 t.dst, .int .i64 t.dport, .int .i64 t.kind] 52)).alloc (.cells #[.slice b used.length cap2] 53)).alloc (.cells #[.int .i64 0, .int .i64 0, .int .i64 0, .int .i64 0, .int .i64 0, .int .i64 0, .int .i64 0] 57)).heap[w.heap.size]? = some (.cells #[.int .i64 t.proto, .int .i64 t.src, .int .i64 t.sport, .int .i64 t.dst, .int .i64 t.dport, .int .i64 t.kind] 52)) := by
    show _ = _
    have := blk_alloc (blk_alloc (heap_newG w (.cells #[.int .i64 t.proto, .int .i64 t.src, .int .i64 t.sport, .int .i64 t.dst, .int .i64 t.dport, .int .i64 t.kind] 52)) (.cells #[.slice b used.length cap2] 53)) (.cells #[.int .i64 0, .int .i64 0, .int .i64 0, .int .i64 0, .int .i64 0, .int .i64 0, .int .i64 0] 57)
    simpa using this
  have hGU0 : Hid ((((w.alloc (.cells #[.int .i64 t.proto, .int .i64 t.src, .int .i64 t.sport, .int .i64 t.dst, .int .i64 t.dport, .int .i64 t.kind] 52)).alloc (.cells #[.slice b used.length cap2] 53)).alloc (.cells #[.int .i64 0, .int .i64 0, .int .i64 0, .int .i64 0, .int .i64 0, .int .i64 0, .int .i64 0] 57)).heap[w.heap.size + 1]? = some (.cells #[.slice b used.length cap2] 53)) := by
    show _ = _
    have := blk_alloc (heap_newG (w.alloc (.cells #[.int .i64 t.proto, .int .i64 t.src, .int .i64 t.sport, .int .i64 t.dst, .int .i64 t.dport, .int .i64 t.kind] 52)) (.cells #[.slice b used.length cap2] 53)) (.cells #[.int .i64 0, .int .i64 0, .int .i64 0, .int .i64 0, .int .i64 0, .int .i64 0, .int .i64 0] 57)
    simpa using this
  have hGO0 : Hid ((((w.alloc (.cells #[.int .i64 t.proto, .int .i64 t.src, .int .i64 t.sport, .int .i64 t.dst, .int .i64 t.dport, .int .i64 t.kind] 52)).alloc (.cells #[.slice b used.length cap2] 53)).alloc (.cells #[.int .i64 0, .int .i64 0, .int .i64 0, .int .i64 0, .int .i64 0, .int .i64 0, .int .i64 0] 57)).heap[w.heap.size + 2]? = some (.cells #[.int .i64 0, .int .i64 0, .int .i64 0, .int .i64 0, .int .i64 0, .int .i64 0, .int .i64 0] 57)) := by
    show _ = _
    have := heap_newG ((w.alloc (.cells #[.int .i64 t.proto, .int .i64 t.src, .int .i64 t.sport, .int .i64 t.dst, .int .i64 t.dport, .int .i64 t.kind] 52)).alloc (.cells #[.slice b used.length cap2] 53)) (.cells #[.int .i64 0, .int .i64 0, .int .i64 0, .int .i64 0, .int .i64 0, .int .i64 0, .int .i64 0] 57)
    simpa using this
  have hL0 := hidS ((((Below.refl w.heap.size w).alloc (Nat.le_refl _) (.cells #[.int .i64 t.proto, .int .i64 t.src, .int .i64 t.sport, .int .i64 t.dst, .int .i64 t.dport, .int .i64 t.kind] 52)).alloc (by simp) (.cells #[.slice b used.length cap2] 53)).alloc (by simp; omega) (.cells #[.int .i64 0, .int .i64 0, .int .i64 0, .int .i64 0, .int .i64 0, .int .i64 0, .int .i64 0] 57))
  refine (callsIn_wide (n := 21)).1 ?_
  refine callsIn_of_wp_marks Try.func21 rfl trivial ?_ rfl
  refine wpIn_wide.2 ?_
  simp only [Try.ntmps21, List.size_toArray, List.length_cons, List.length_nil, Nat.reduceAdd, Nat.reduceSub, Array.replicate_succ, Array.replicate_zero, List.push_toArray, List.append_toArray, List.nil_append, List.cons_append]
  go_upto_region 1 with fail
  generalize (((w.alloc (.cells #[.int .i64 t.proto, .int .i64 t.src, .int .i64 t.sport, .int .i64 t.dst, .int .i64 t.dport, .int .i64 t.kind] 52)).alloc (.cells #[.slice b used.length cap2] 53)).alloc (.cells #[.int .i64 0, .int .i64 0, .int .i64 0, .int .i64 0, .int .i64 0, .int .i64 0, .int .i64 0] 57)) = w0 at hGT0 hGU0 hGO0 hL0 ⊢
  have cU0 := blk_cell hGU0.out 0
  simp at cU0
  go_wp2_with fail
  refine (HRR.out _ hL0.out).mono ?_
  rintro _ w1 ⟨rfl, hb1⟩
  clear cU0
  have hGT1 := hidS (blk_later hGT0.out hb1)
  have hGU1 := hidS (blk_later hGU0.out hb1)
  have hGO1 := hidS (blk_later hGO0.out hb1)
  have hL1 := hidS (hL0.out.trans (hb1.mono hL0.out.size))
  clear hb1 hL0 hGT0 hGU0 hGO0
  rw [h1]
  have cT0 := blk_cell hGT1.out 0
  have cT1 := blk_cell hGT1.out 1
  have cT2 := blk_cell hGT1.out 2
  have cT3 := blk_cell hGT1.out 3
  have cT4 := blk_cell hGT1.out 4
  have cT5 := blk_cell hGT1.out 5
  simp at cT0 cT1 cT2 cT3 cT4 cT5
  go_wp2_with fail
  refine (HTT.out _).mono ?_
  rintro _ w2 ⟨rfl, hb2⟩
  clear cT0 cT1 cT2 cT3 cT4 cT5
  have hGT2 := hidS (blk_later hGT1.out hb2)
  have hGU2 := hidS (blk_later hGU1.out hb2)
  have hGO2 := hidS (blk_later hGO1.out hb2)
  have hL2 := hidS (hL1.out.trans (hb2.mono hL1.out.size))
  clear hb2 hL1 hGT1 hGU1 hGO1
  rw [h2]
  go_wp2_with fail
  refine (areTm_one w2.heap.size start _ (blk_cell (heap_newG w2 (.cells #[.int .i64 start] 2)) 0)).mono ?_
  rintro _ v9 ⟨rfl, hv9⟩
  rw [hv9]
  clear hv9 v9
  have hGA3 := hidS (heap_newG w2 (.cells #[.int .i64 start] 2))
  have nA := blk_lt hGO2.out
  have hGT3 := hidS (blk_alloc hGT2.out (.cells #[.int .i64 start] 2))
  have hGU3 := hidS (blk_alloc hGU2.out (.cells #[.int .i64 start] 2))
  have hGO3 := hidS (blk_alloc hGO2.out (.cells #[.int .i64 start] 2))
  have hL3 := hidS (hL2.out.alloc hL2.out.size (.cells #[.int .i64 start] 2))
  clear hL2 hGT2 hGU2 hGO2
  generalize w2.alloc (.cells #[.int .i64 start] 2) = w3 at hGT3 hGU3 hGO3 hGA3 hL3 ⊢
  rw [h3]
  have cU0 := blk_cell hGU3.out 0
  simp at cU0
  go_wp2_with fail
  refine (HAA.out _ hL3.out).mono ?_
  rintro _ w4 ⟨rfl, hb4⟩
  clear cU0
  have hGT4 := hidS (blk_later hGT3.out hb4)
  have hGU4 := hidS (blk_later hGU3.out hb4)
  have hGO4 := hidS (blk_later hGO3.out hb4)
  have hGA4 := hidS (blk_later hGA3.out hb4)
  have hL4 := hidS (hL3.out.trans (hb4.mono hL3.out.size))
  clear hb4 hL3 hGT3 hGU3 hGO3 hGA3
  rw [h4]
  have cT0 := blk_cell hGT4.out 0
  have cT1 := blk_cell hGT4.out 1
  have cT2 := blk_cell hGT4.out 2
  have cT3 := blk_cell hGT4.out 3
  have cT4 := blk_cell hGT4.out 4
  have cT5 := blk_cell hGT4.out 5
  simp at cT0 cT1 cT2 cT3 cT4 cT5
  go_wp2_with fail
  refine (HG.out _ hL4.out).mono ?_
  rintro _ w5 ⟨rfl, hb5⟩
  clear cT0 cT1 cT2 cT3 cT4 cT5
  have hGT5 := hidS (blk_later hGT4.out hb5)
  have hGU5 := hidS (blk_later hGU4.out hb5)
  have hGO5 := hidS (blk_later hGO4.out hb5)
  have hGA5 := hidS (blk_later hGA4.out hb5)
  have hL5 := hidS (hL4.out.trans (hb5.mono hL4.out.size))
  clear hb5 hL4 hGT4 hGU4 hGO4 hGA4
  go_wp2_with fail
  refine (HN.out _).mono ?_
  rintro _ w6 ⟨Bl, Bt, Bq, rfl, hl6, ht6, hq6, hb6⟩
  have hGT6 := hidS (blk_later hGT5.out hb6)
  have hGU6 := hidS (blk_later hGU5.out hb6)
  have hGO6 := hidS (blk_later hGO5.out hb6)
  have hGA6 := hidS (blk_later hGA5.out hb6)
  have hL6 := hidS (hL5.out.trans (hb6.mono hL5.out.size))
  clear hb6 hL5 hGT5 hGU5 hGO5 hGA5
  have hit := HH.out 20 Bl Bt Bq w6 hL6.out (by omega) hl6 ht6 hq6
  clear HH HN HG hl6 ht6 hq6 hGT6 hGA6 nA
  go_wp2_with fail
  skip
  have lO := blk_lt hGO6.out
  have lU := blk_lt hGU6.out
  have lW := hL6.out.size
  refine (wpIn_wide (n := 21)).1 ?_
  refine range_over 21 (gf := 110) (lb := #[.pointer (some ⟨Bl, 0, none⟩), .pointer (some ⟨Bt, 0, none⟩), .pointer (some ⟨Bq, 0, none⟩)]) rfl (enters_of Try.func110 (by kernel_rfl) rfl) (encs := fun x : Tp => #[.agg #[.int .i64 x.proto, .int .i64 x.src, .int .i64 x.sport, .int .i64 x.dst, .int .i64 x.dport, .int .i64 x.kind]]) (fun _ => rfl) (S := L) hit
    (fun pre V => (∀ x ∈ pre, usedA used x = true) ∧ Below w6.heap.size w6 V)
    (fun pre V => (∃ pre0 x, pre = pre0 ++ [x] ∧ (∀ y ∈ pre0, usedA used y = true) ∧ usedA used x = false ∧ V.heap[w.heap.size + 2]? = some (.cells #[.int .i64 x.proto, .int .i64 x.src, .int .i64 x.sport, .int .i64 x.dst, .int .i64 x.dport, .int .i64 x.kind, .int .i64 0] 57)) ∧ Below w.heap.size w V)
    (fun s A B row h hg hr => ⟨h.1, ownFrom_below (β := Unit) (Nat.le_refl _) (Nat.le_refl _) () A B row h.2 hg hr⟩)
    ?hIx ⟨fun x h => by simp at h, Below.refl _ _⟩
    (fun x a' V => ∃ Bx, V.heap[Bx]? = some (.cells #[.int .i64 x.proto, .int .i64 x.src, .int .i64 x.sport, .int .i64 x.dst, .int .i64 x.dport, .int .i64 x.kind] 52) ∧ a' = { tmps := #[.slice a l.length cap, .agg #[.int .i64 t.proto, .int .i64 t.src, .int .i64 t.sport, .int .i64 t.dst, .int .i64 t.dport, .int .i64 t.kind], .int .i64 start, .slice b used.length cap2, undef, .pointer (some ⟨w.heap.size, 0, none⟩), undef, .pointer (some ⟨w.heap.size + 1, 0, none⟩), .pointer (some ⟨w.heap.size + 1 + 1, 0, none⟩), .pointer (some ⟨Bx, 0, none⟩), .bool false, .slice a l.length cap, .int .i64 (l.length : Int), .bool false, .bool false, .slice b used.length cap2, .int .i64 (used.length : Int), .bool false, .bool false, undef, .bool (decide ((60 : Int) < (used.length : Int))), .slice a l.length cap, .bool true, .bool false, .bool false, .agg #[.int .i64 t.proto, .int .i64 t.src, .int .i64 t.sport, .int .i64 t.dst, .int .i64 t.dport, .int .i64 t.kind], .bool true, .bool false, .bool false, .bool false, .int .i64 start, .slice (some ⟨w2.heap.size, 0, none⟩) 1 1, .bool true, .bool false, .bool false, .bool false, .slice b used.length cap2, .int .i64 (used.length : Int), .bool (decide ((60 : Int) < (used.length : Int))), .bool (decide ((60 : Int) < (used.length : Int))), .bool (decide ((60 : Int) < (used.length : Int))), .slice b used.length cap2, .bool true, .bool false, .bool (decide ((60 : Int) < (used.length : Int))), undef, .slice a l.length cap, .slice a l.length cap, .agg #[.int .i64 t.proto, .int .i64 t.src, .int .i64 t.sport, .int .i64 t.dst, .int .i64 t.dport, .int .i64 t.kind], .agg #[.int .i64 g.proto, .int .i64 g.src, .int .i64 g.sport, .int .i64 g.dst, .int .i64 g.dport, .int .i64 g.kind], .int .i64 start, .func (.func 110) #[] #[.pointer (some ⟨Bl, 0, none⟩), .pointer (some ⟨Bt, 0, none⟩), .pointer (some ⟨Bq, 0, none⟩)], .agg #[.int .i64 x.proto, .int .i64 x.src, .int .i64 x.sport, .int .i64 x.dst, .int .i64 x.dport, .int .i64 x.kind], undef, undef, undef, undef, undef, undef, undef], defers := [] }) ?hAx ?assign ?body ?done ?stop
  case hIx =>
    rintro s A B row ⟨⟨pre0, x, e1, e2, e3, e4⟩, e5⟩ hg hr
    exact ⟨⟨pre0, x, e1, e2, e3, (hg.block _ (blk_lt e4) (fun e => by have := (hr _ e.symm).1; omega)).trans e4⟩, ownFrom_below (β := Unit) (Nat.le_refl _) lW () A B row e5 hg hr⟩
  case hAx =>
    rintro x a' s A B row ⟨Bx, hb, ha⟩ hg hr
    refine ⟨Bx, (hg.block _ (blk_lt hb) (fun e => ?_)).trans hb, ha⟩
    obtain ⟨_, ob, ho, hc⟩ := hr _ e.symm
    rw [hb] at ho
    cases ho
    cases hc
  case assign =>
    rintro l' pre x V K m ⟨hpre, hV⟩ hK
    gi_wp2
    rw [Oper.semAt_eq _ _ _ (by simp)]
    simp [execOp, go_sem]
    gi_wp2
    rw [Oper.semAt_eq _ _ _ (by simp)]
    simp [execOp, go_sem]
    gi_wp2
    exact hK _ _ ((Below.refl _ V).alloc (Nat.le_refl _) _) ⟨_, heap_newG V _, rfl⟩
  case body =>
    rintro l' pre x a' V m hsz ⟨hpre, hV⟩ ⟨Bx, hX, rfl⟩
    have hi := CallsIn.inRound l' ((callsIn_wide (n := m - 1)).2 (HI.out x V (hL6.out.trans (hV.mono lW))))
    have hU := (hV.block _ lU).trans hGU6.out
    have c0 := blk_cell hU 0
    simp at c0
    have x0 := blk_cell hX 0
    have x1 := blk_cell hX 1
    have x2 := blk_cell hX 2
    have x3 := blk_cell hX 3
    have x4 := blk_cell hX 4
    have x5 := blk_cell hX 5
    simp at x0 x1 x2 x3 x4 x5
    gi_wp2
    rw [Oper.semAt_eq _ _ _ (by simp)]
    simp [execOp, go_sem, c0]
    gi_wp2
    rw [Oper.semAt_eq _ _ _ (by simp)]
    simp [execOp, go_sem, x0, x1, x2, x3, x4, x5]
    gi_wp2
    refine ⟨trivial, (fun h => by cases h), ?_⟩
    simp [go_sem]
    refine hi.mono ?_
    rintro _ V2 ⟨rfl, hb2⟩
    clear c0 x0 x1 x2 x3 x4 x5
    cases hu : usedA used x
    · have hX2 := (hb2.block _ (blk_lt hX)).trans hX
      have hO2 := (hb2.block _ (Nat.lt_of_lt_of_le lO hV.size)).trans ((hV.block _ lO).trans hGO6.out)
      have x0 := blk_cell hX2 0
      have x1 := blk_cell hX2 1
      have x2 := blk_cell hX2 2
      have x3 := blk_cell hX2 3
      have x4 := blk_cell hX2 4
      have x5 := blk_cell hX2 5
      simp at x0 x1 x2 x3 x4 x5
      have kO := blk_cell hO2
      have fO := blk_free hO2
      gi_wp2
      rw [Oper.semAt_eq _ _ _ (by simp)]
      simp [execOp, go_sem]
      gi_wp2
      rw [Oper.semAt_eq _ _ _ (by simp)]
      simp [execOp, go_sem, x0, x1, x2, x3, x4, x5]
      gi_wp2
      rw [Oper.semAt_eq _ _ _ (by simp)]
      simp [execOp, go_sem]
      gi_wp2
      rw [Oper.semAt_eq _ _ _ (by simp)]
      simp [execOp, go_sem, kO, fO]
      gi_wp2
      obtain ⟨p1, p2, p3⟩ := put7 w.heap.size (w.heap.size + 1 + 1) V2 _ _ _ _ _ _ _ (.int .i64 x.proto) (.int .i64 x.src) (.int .i64 x.sport) (.int .i64 x.dst) (.int .i64 x.dport) (.int .i64 x.kind) (.int .i64 0) _ hO2 (by omega)
      exact ⟨⟨Nat.le_trans hb2.size p2.size, fun k o hk ho hc => p3 k o (by omega) ((hb2.block k (Array.getElem?_eq_some_iff.1 ho).1).trans ho)⟩, ⟨pre, x, rfl, hpre, hu, p1⟩, ((hL6.out.trans (hV.mono lW)).trans (hb2.mono (Nat.le_trans lW hV.size))).trans p2⟩
    · gi_wp2
      rw [Oper.semAt_eq _ _ _ (by simp)]
      simp [execOp, go_sem]
      gi_wp2
      refine ⟨hb2, fun y hy => ?_, hV.trans (hb2.mono hV.size)⟩
      rcases List.mem_append.1 hy with h | h
      · exact hpre y h
      · rw [List.mem_singleton.1 h]; exact hu
  case done =>
    rintro D V hD ⟨hall, hV⟩ hK
    have hO := (hV.block _ lO).trans hGO6.out
    have kO := blk_cell hO
    have fO := blk_free hO
    go_wp2_with fail
    obtain ⟨p1, p2, p3⟩ := put7 w.heap.size (w.heap.size + 1 + 1) V _ _ _ _ _ _ _ (.int .i64 0) (.int .i64 0) (.int .i64 0) (.int .i64 0) (.int .i64 0) (.int .i64 0) (.int .i64 9) _ hO (by omega)
    have p4 := p3 D _ (by omega) hK
    have p5 := (hL6.out.trans (hV.mono lW)).trans p2
    clear p2 p3 kO fO hO
    generalize (((((((V.setCell ⟨w.heap.size + 1 + 1, 0, none⟩ (.int .i64 0)).setCell ⟨w.heap.size + 1 + 1, 1, none⟩ (.int .i64 0)).setCell ⟨w.heap.size + 1 + 1, 2, none⟩ (.int .i64 0)).setCell ⟨w.heap.size + 1 + 1, 3, none⟩ (.int .i64 0)).setCell ⟨w.heap.size + 1 + 1, 4, none⟩ (.int .i64 0)).setCell ⟨w.heap.size + 1 + 1, 5, none⟩ (.int .i64 0)).setCell ⟨w.heap.size + 1 + 1, 6, none⟩ (.int .i64 9)) = V3 at p1 p4 p5 ⊢
    refine ⟨by simp, .inl ⟨_, _, rfl, run_takeDeferred p4, ?_⟩⟩
    have q := (World.putObj_heap_other (w := V3) (o := .deferred none) (show w.heap.size + 1 + 1 ≠ D by omega)).trans p1
    have q6 := (ownFrom_below (β := Unit) (n₀ := w.heap.size) (B := w.heap.size) (w₀ := w) (Nat.le_refl _) (Nat.le_refl _)).putObj (s := ()) (.deferred none) p5 (by omega : w.heap.size ≤ D) p4 rfl
    have kO := blk_cell q
    refine ⟨.agg #[.int .i64 0, .int .i64 0, .int .i64 0, .int .i64 0, .int .i64 0, .int .i64 0, .int .i64 9], by simp [results, Try.results21, go_sem, kO], by rw [E.out.1, E.out.2, HF.out, find_none HM.out hall]; rfl, q6⟩
  case stop =>
    rintro D pre V hD hpre ⟨⟨pre0, x, rfl, e2, e3, e4⟩, e5⟩ hK
    gi_wp2
    refine ⟨by simp, .inl ⟨_, _, rfl, run_takeDeferred hK, ?_⟩⟩
    have q := (World.putObj_heap_other (w := V) (o := .deferred none) (show w.heap.size + 1 + 1 ≠ D by omega)).trans e4
    have q6 := (ownFrom_below (β := Unit) (n₀ := w.heap.size) (B := w.heap.size) (w₀ := w) (Nat.le_refl _) (Nat.le_refl _)).putObj (s := ()) (.deferred none) e5 (by omega : w.heap.size ≤ D) hK rfl
    have kO := blk_cell q
    refine ⟨.agg #[.int .i64 x.proto, .int .i64 x.src, .int .i64 x.sport, .int .i64 x.dst, .int .i64 x.dport, .int .i64 x.kind, .int .i64 0], by simp [results, Try.results21, go_sem, kO], by rw [E.out.1, E.out.2, HF.out, find_some HM.out hpre e2 e3]; rfl, q6⟩
end Go.Proofs.Ytilajoafppplcaa
