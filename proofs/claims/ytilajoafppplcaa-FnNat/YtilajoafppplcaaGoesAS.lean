/- Proved here: spec.GoesAs answers as whom a new flow goes on; all old memory stays (conditions: rows that can be read, at most 2^20). -/
import Derived.Test.YtilajoafppplcaaGoesS
import Derived.Test.YtilajoafppplcaaAll24
import Derived.Deep.Cut
namespace Go.Proofs.Ytilajoafppplcaa
open Go.ChangeShapes Go.WideShapes Go.ChangeAt Go.RowKit
set_option linter.unusedVariables false
set_option linter.unusedSimpArgs false
set_option maxRecDepth 100000

def startB (n : Int) : Bool := decide (0 ≤ n) && decide (n ≤ 1000000)
theorem l02Start_any (n : Int) (w : World) : Calls Try.prog 78 #[.int .i64 n] w fun e w' => e = .returned (.bool (startB n)) ∧ w' = w := by
  go_enter Try.func78, Try.ntmps78
  go_wp2_with fail
  refine (l02Is_any n 0 1000000 _).mono ?_
  rintro e w1 ⟨rfl, rfl⟩
  go_wp2
  go_ret
  exact ⟨rfl, rfl⟩
theorem goes_size {l : List Rl} {t : Tp} {start : Int} {used : List Tp} (h : 400 < l.length ∨ 400 < used.length) : goesT l t start used = zeroTp ∧ goesC l t start used = 2 := ⟨if_pos h, if_pos h⟩
theorem goes_form {l : List Rl} {t : Tp} {start : Int} {used : List Tp} (h : ¬ (400 < l.length ∨ 400 < used.length)) (hk : goesOk l t start used = false) : goesT l t start used = zeroTp ∧ goesC l t start used = 1 := by
  unfold goesT goesC
  rw [if_neg h, if_neg h, hk]
  exact ⟨rfl, rfl⟩
theorem goes_ok {l : List Rl} {t : Tp} {start : Int} {used : List Tp} (h : ¬ (400 < l.length ∨ 400 < used.length)) (hk : goesOk l t start used = true) : goesT l t start used = tupF (goesF l t start used) ∧ goesC l t start used = codeF (goesF l t start used) := by
  unfold goesT goesC
  rw [if_neg h, if_neg h, if_pos hk, if_pos hk]
  exact ⟨rfl, rfl⟩
set_option maxHeartbeats 8000000 in
theorem specGoesAs_any (a b : Option Addr) (cap cap2 : Nat) (l : List Rl) (used : List Tp) (t : Tp) (start : Int) (w : World) (hR : RowZ a (flatRule l) w) (hU : RowZ b (flatTuple used) w) (hz : l.length ≤ 1048576) (hz2 : used.length ≤ 1048576) :
    Calls Try.prog 26 #[.slice a l.length cap, .agg #[.int .i64 t.proto, .int .i64 t.src, .int .i64 t.sport, .int .i64 t.dst, .int .i64 t.dport, .int .i64 t.kind], .int .i64 start, .slice b used.length cap2] w fun e w' => e = .returned (.agg #[.int .i64 (goesT l t start used).proto, .int .i64 (goesT l t start used).src, .int .i64 (goesT l t start used).sport, .int .i64 (goesT l t start used).dst, .int .i64 (goesT l t start used).dport, .int .i64 (goesT l t start used).kind, .int .i64 (goesC l t start used)]) ∧ Below w.heap.size w w' := by
  have HR := hidS hR
  have HU := hidS hU
  have hOK : Hid (goesOk l t start used = (rulesB l && rightT t && startB start && decide (used.length ≤ 60) && allT used)) := rfl
  have HRR := hidS (fun W (h : Below w.heap.size w W) => specRules_any a cap l W (HR.out.later h) hz)
  have HTT := hidS (fun W => specTRight_any t W)
  have HST := hidS (fun W => l02Start_any start W)
  clear hR hU
  by_cases q1 : (400 : Int) < (l.length : Int)
  · have hsz : 400 < l.length ∨ 400 < used.length := by omega
    have E := hidS (goes_size (t := t) (start := start) hsz)
    have hGT0 : Hid (((w.alloc (.cells #[.int .i64 t.proto, .int .i64 t.src, .int .i64 t.sport, .int .i64 t.dst, .int .i64 t.dport, .int .i64 t.kind] 52)).alloc (.cells #[.int .i64 0, .int .i64 0, .int .i64 0, .int .i64 0, .int .i64 0, .int .i64 0, .int .i64 0] 57)).heap[w.heap.size]? = some (.cells #[.int .i64 t.proto, .int .i64 t.src, .int .i64 t.sport, .int .i64 t.dst, .int .i64 t.dport, .int .i64 t.kind] 52)) := by
      show _ = _
      have := blk_alloc (heap_newG w (.cells #[.int .i64 t.proto, .int .i64 t.src, .int .i64 t.sport, .int .i64 t.dst, .int .i64 t.dport, .int .i64 t.kind] 52)) (.cells #[.int .i64 0, .int .i64 0, .int .i64 0, .int .i64 0, .int .i64 0, .int .i64 0, .int .i64 0] 57)
      simpa using this
    have hGO0 : Hid (((w.alloc (.cells #[.int .i64 t.proto, .int .i64 t.src, .int .i64 t.sport, .int .i64 t.dst, .int .i64 t.dport, .int .i64 t.kind] 52)).alloc (.cells #[.int .i64 0, .int .i64 0, .int .i64 0, .int .i64 0, .int .i64 0, .int .i64 0, .int .i64 0] 57)).heap[w.heap.size + 1]? = some (.cells #[.int .i64 0, .int .i64 0, .int .i64 0, .int .i64 0, .int .i64 0, .int .i64 0, .int .i64 0] 57)) := by
      show _ = _
      have := heap_newG (w.alloc (.cells #[.int .i64 t.proto, .int .i64 t.src, .int .i64 t.sport, .int .i64 t.dst, .int .i64 t.dport, .int .i64 t.kind] 52)) (.cells #[.int .i64 0, .int .i64 0, .int .i64 0, .int .i64 0, .int .i64 0, .int .i64 0, .int .i64 0] 57)
      simpa using this
    have hL0 := hidS (((Below.refl w.heap.size w).alloc (Nat.le_refl _) (.cells #[.int .i64 t.proto, .int .i64 t.src, .int .i64 t.sport, .int .i64 t.dst, .int .i64 t.dport, .int .i64 t.kind] 52)).alloc (by simp) (.cells #[.int .i64 0, .int .i64 0, .int .i64 0, .int .i64 0, .int .i64 0, .int .i64 0, .int .i64 0] 57))
    go_enter Try.func26, Try.ntmps26
    go_upto_region 1 with fail
    generalize ((w.alloc (.cells #[.int .i64 t.proto, .int .i64 t.src, .int .i64 t.sport, .int .i64 t.dst, .int .i64 t.dport, .int .i64 t.kind] 52)).alloc (.cells #[.int .i64 0, .int .i64 0, .int .i64 0, .int .i64 0, .int .i64 0, .int .i64 0, .int .i64 0] 57)) = w0 at hGT0 hGO0 hL0 ⊢
    have kO := blk_cell hGO0.out
    have fO := blk_free hGO0.out
    go_wp2_with fail
    refine bodyPost_ret (v := .agg #[.int .i64 0, .int .i64 0, .int .i64 0, .int .i64 0, .int .i64 0, .int .i64 0, .int .i64 2]) (by simp [results, Try.results26, go_sem, *]) rfl ⟨by rw [E.out.1, E.out.2]; rfl, ?_⟩
    repeat (refine below_at ?_ (by omega))
    exact hL0.out
  by_cases q2 : (400 : Int) < (used.length : Int)
  · have hsz : 400 < l.length ∨ 400 < used.length := by omega
    have E := hidS (goes_size (t := t) (start := start) hsz)
    have hGT0 : Hid (((w.alloc (.cells #[.int .i64 t.proto, .int .i64 t.src, .int .i64 t.sport, .int .i64 t.dst, .int .i64 t.dport, .int .i64 t.kind] 52)).alloc (.cells #[.int .i64 0, .int .i64 0, .int .i64 0, .int .i64 0, .int .i64 0, .int .i64 0, .int .i64 0] 57)).heap[w.heap.size]? = some (.cells #[.int .i64 t.proto, .int .i64 t.src, .int .i64 t.sport, .int .i64 t.dst, .int .i64 t.dport, .int .i64 t.kind] 52)) := by
      show _ = _
      have := blk_alloc (heap_newG w (.cells #[.int .i64 t.proto, .int .i64 t.src, .int .i64 t.sport, .int .i64 t.dst, .int .i64 t.dport, .int .i64 t.kind] 52)) (.cells #[.int .i64 0, .int .i64 0, .int .i64 0, .int .i64 0, .int .i64 0, .int .i64 0, .int .i64 0] 57)
      simpa using this
    have hGO0 : Hid (((w.alloc (.cells #[.int .i64 t.proto, .int .i64 t.src, .int .i64 t.sport, .int .i64 t.dst, .int .i64 t.dport, .int .i64 t.kind] 52)).alloc (.cells #[.int .i64 0, .int .i64 0, .int .i64 0, .int .i64 0, .int .i64 0, .int .i64 0, .int .i64 0] 57)).heap[w.heap.size + 1]? = some (.cells #[.int .i64 0, .int .i64 0, .int .i64 0, .int .i64 0, .int .i64 0, .int .i64 0, .int .i64 0] 57)) := by
      show _ = _
      have := heap_newG (w.alloc (.cells #[.int .i64 t.proto, .int .i64 t.src, .int .i64 t.sport, .int .i64 t.dst, .int .i64 t.dport, .int .i64 t.kind] 52)) (.cells #[.int .i64 0, .int .i64 0, .int .i64 0, .int .i64 0, .int .i64 0, .int .i64 0, .int .i64 0] 57)
      simpa using this
    have hL0 := hidS (((Below.refl w.heap.size w).alloc (Nat.le_refl _) (.cells #[.int .i64 t.proto, .int .i64 t.src, .int .i64 t.sport, .int .i64 t.dst, .int .i64 t.dport, .int .i64 t.kind] 52)).alloc (by simp) (.cells #[.int .i64 0, .int .i64 0, .int .i64 0, .int .i64 0, .int .i64 0, .int .i64 0, .int .i64 0] 57))
    go_enter Try.func26, Try.ntmps26
    go_upto_region 1 with fail
    generalize ((w.alloc (.cells #[.int .i64 t.proto, .int .i64 t.src, .int .i64 t.sport, .int .i64 t.dst, .int .i64 t.dport, .int .i64 t.kind] 52)).alloc (.cells #[.int .i64 0, .int .i64 0, .int .i64 0, .int .i64 0, .int .i64 0, .int .i64 0, .int .i64 0] 57)) = w0 at hGT0 hGO0 hL0 ⊢
    have kO := blk_cell hGO0.out
    have fO := blk_free hGO0.out
    go_wp2_with fail
    refine bodyPost_ret (v := .agg #[.int .i64 0, .int .i64 0, .int .i64 0, .int .i64 0, .int .i64 0, .int .i64 0, .int .i64 2]) (by simp [results, Try.results26, go_sem, *]) rfl ⟨by rw [E.out.1, E.out.2]; rfl, ?_⟩
    repeat (refine below_at ?_ (by omega))
    exact hL0.out
  have hsz : ¬ (400 < l.length ∨ 400 < used.length) := by omega
  cases h1 : rulesB l
  · have E := hidS (goes_form hsz (hOK.out.trans (by rw [h1] <;> simp)))
    have hGT0 : Hid (((w.alloc (.cells #[.int .i64 t.proto, .int .i64 t.src, .int .i64 t.sport, .int .i64 t.dst, .int .i64 t.dport, .int .i64 t.kind] 52)).alloc (.cells #[.int .i64 0, .int .i64 0, .int .i64 0, .int .i64 0, .int .i64 0, .int .i64 0, .int .i64 0] 57)).heap[w.heap.size]? = some (.cells #[.int .i64 t.proto, .int .i64 t.src, .int .i64 t.sport, .int .i64 t.dst, .int .i64 t.dport, .int .i64 t.kind] 52)) := by
      show _ = _
      have := blk_alloc (heap_newG w (.cells #[.int .i64 t.proto, .int .i64 t.src, .int .i64 t.sport, .int .i64 t.dst, .int .i64 t.dport, .int .i64 t.kind] 52)) (.cells #[.int .i64 0, .int .i64 0, .int .i64 0, .int .i64 0, .int .i64 0, .int .i64 0, .int .i64 0] 57)
      simpa using this
    have hGO0 : Hid (((w.alloc (.cells #[.int .i64 t.proto, .int .i64 t.src, .int .i64 t.sport, .int .i64 t.dst, .int .i64 t.dport, .int .i64 t.kind] 52)).alloc (.cells #[.int .i64 0, .int .i64 0, .int .i64 0, .int .i64 0, .int .i64 0, .int .i64 0, .int .i64 0] 57)).heap[w.heap.size + 1]? = some (.cells #[.int .i64 0, .int .i64 0, .int .i64 0, .int .i64 0, .int .i64 0, .int .i64 0, .int .i64 0] 57)) := by
      show _ = _
      have := heap_newG (w.alloc (.cells #[.int .i64 t.proto, .int .i64 t.src, .int .i64 t.sport, .int .i64 t.dst, .int .i64 t.dport, .int .i64 t.kind] 52)) (.cells #[.int .i64 0, .int .i64 0, .int .i64 0, .int .i64 0, .int .i64 0, .int .i64 0, .int .i64 0] 57)
      simpa using this
    have hL0 := hidS (((Below.refl w.heap.size w).alloc (Nat.le_refl _) (.cells #[.int .i64 t.proto, .int .i64 t.src, .int .i64 t.sport, .int .i64 t.dst, .int .i64 t.dport, .int .i64 t.kind] 52)).alloc (by simp) (.cells #[.int .i64 0, .int .i64 0, .int .i64 0, .int .i64 0, .int .i64 0, .int .i64 0, .int .i64 0] 57))
    go_enter Try.func26, Try.ntmps26
    go_wp2_with fail
    refine (HRR.out _ hL0.out).mono ?_
    rintro _ w1 ⟨rfl, hb1⟩
    have hGT1 := hidS (blk_later hGT0.out hb1)
    have hGO1 := hidS (blk_later hGO0.out hb1)
    have hL1 := hidS (hL0.out.trans (hb1.mono hL0.out.size))
    clear hb1 hL0 hGT0 hGO0
    rw [h1]
    have kO := blk_cell hGO1.out
    have fO := blk_free hGO1.out
    go_wp2_with fail
    refine bodyPost_ret (v := .agg #[.int .i64 0, .int .i64 0, .int .i64 0, .int .i64 0, .int .i64 0, .int .i64 0, .int .i64 1]) (by simp [results, Try.results26, go_sem, *]) rfl ⟨by rw [E.out.1, E.out.2]; rfl, ?_⟩
    repeat (refine below_at ?_ (by omega))
    exact hL1.out
  cases h2 : rightT t
  · have E := hidS (goes_form hsz (hOK.out.trans (by rw [h2] <;> simp)))
    have hGT0 : Hid (((w.alloc (.cells #[.int .i64 t.proto, .int .i64 t.src, .int .i64 t.sport, .int .i64 t.dst, .int .i64 t.dport, .int .i64 t.kind] 52)).alloc (.cells #[.int .i64 0, .int .i64 0, .int .i64 0, .int .i64 0, .int .i64 0, .int .i64 0, .int .i64 0] 57)).heap[w.heap.size]? = some (.cells #[.int .i64 t.proto, .int .i64 t.src, .int .i64 t.sport, .int .i64 t.dst, .int .i64 t.dport, .int .i64 t.kind] 52)) := by
      show _ = _
      have := blk_alloc (heap_newG w (.cells #[.int .i64 t.proto, .int .i64 t.src, .int .i64 t.sport, .int .i64 t.dst, .int .i64 t.dport, .int .i64 t.kind] 52)) (.cells #[.int .i64 0, .int .i64 0, .int .i64 0, .int .i64 0, .int .i64 0, .int .i64 0, .int .i64 0] 57)
      simpa using this
    have hGO0 : Hid (((w.alloc (.cells #[.int .i64 t.proto, .int .i64 t.src, .int .i64 t.sport, .int .i64 t.dst, .int .i64 t.dport, .int .i64 t.kind] 52)).alloc (.cells #[.int .i64 0, .int .i64 0, .int .i64 0, .int .i64 0, .int .i64 0, .int .i64 0, .int .i64 0] 57)).heap[w.heap.size + 1]? = some (.cells #[.int .i64 0, .int .i64 0, .int .i64 0, .int .i64 0, .int .i64 0, .int .i64 0, .int .i64 0] 57)) := by
      show _ = _
      have := heap_newG (w.alloc (.cells #[.int .i64 t.proto, .int .i64 t.src, .int .i64 t.sport, .int .i64 t.dst, .int .i64 t.dport, .int .i64 t.kind] 52)) (.cells #[.int .i64 0, .int .i64 0, .int .i64 0, .int .i64 0, .int .i64 0, .int .i64 0, .int .i64 0] 57)
      simpa using this
    have hL0 := hidS (((Below.refl w.heap.size w).alloc (Nat.le_refl _) (.cells #[.int .i64 t.proto, .int .i64 t.src, .int .i64 t.sport, .int .i64 t.dst, .int .i64 t.dport, .int .i64 t.kind] 52)).alloc (by simp) (.cells #[.int .i64 0, .int .i64 0, .int .i64 0, .int .i64 0, .int .i64 0, .int .i64 0, .int .i64 0] 57))
    go_enter Try.func26, Try.ntmps26
    go_wp2_with fail
    refine (HRR.out _ hL0.out).mono ?_
    rintro _ w1 ⟨rfl, hb1⟩
    have hGT1 := hidS (blk_later hGT0.out hb1)
    have hGO1 := hidS (blk_later hGO0.out hb1)
    have hL1 := hidS (hL0.out.trans (hb1.mono hL0.out.size))
    clear hb1 hL0 hGT0 hGO0
    rw [h1]
    have cT0 := blk_cell hGT1.out 0
    have cT1 := blk_cell hGT1.out 1
    have cT2 := blk_cell hGT1.out 2
    have cT3 := blk_cell hGT1.out 3
    have cT4 := blk_cell hGT1.out 4
    have cT5 := blk_cell hGT1.out 5
    simp at cT0 cT1 cT2 cT3 cT4 cT5
    go_wp2_with fail
    refine (HTT.out _).mono ?_
    rintro _ w2 ⟨rfl, hb2⟩
    clear cT0 cT1 cT2 cT3 cT4 cT5
    have hGT2 := hidS (blk_later hGT1.out hb2)
    have hGO2 := hidS (blk_later hGO1.out hb2)
    have hL2 := hidS (hL1.out.trans (hb2.mono hL1.out.size))
    clear hb2 hL1 hGT1 hGO1
    rw [h2]
    have kO := blk_cell hGO2.out
    have fO := blk_free hGO2.out
    go_wp2_with fail
    refine bodyPost_ret (v := .agg #[.int .i64 0, .int .i64 0, .int .i64 0, .int .i64 0, .int .i64 0, .int .i64 0, .int .i64 1]) (by simp [results, Try.results26, go_sem, *]) rfl ⟨by rw [E.out.1, E.out.2]; rfl, ?_⟩
    repeat (refine below_at ?_ (by omega))
    exact hL2.out
  cases h3 : startB start
  · have E := hidS (goes_form hsz (hOK.out.trans (by rw [h3] <;> simp)))
    have hGT0 : Hid (((w.alloc (.cells #[.int .i64 t.proto, .int .i64 t.src, .int .i64 t.sport, .int .i64 t.dst, .int .i64 t.dport, .int .i64 t.kind] 52)).alloc (.cells #[.int .i64 0, .int .i64 0, .int .i64 0, .int .i64 0, .int .i64 0, .int .i64 0, .int .i64 0] 57)).heap[w.heap.size]? = some (.cells #[.int .i64 t.proto, .int .i64 t.src, .int .i64 t.sport, .int .i64 t.dst, .int .i64 t.dport, .int .i64 t.kind] 52)) := by
      show _ = _
      have := blk_alloc (heap_newG w (.cells #[.int .i64 t.proto, .int .i64 t.src, .int .i64 t.sport, .int .i64 t.dst, .int .i64 t.dport, .int .i64 t.kind] 52)) (.cells #[.int .i64 0, .int .i64 0, .int .i64 0, .int .i64 0, .int .i64 0, .int .i64 0, .int .i64 0] 57)
      simpa using this
    have hGO0 : Hid (((w.alloc (.cells #[.int .i64 t.proto, .int .i64 t.src, .int .i64 t.sport, .int .i64 t.dst, .int .i64 t.dport, .int .i64 t.kind] 52)).alloc (.cells #[.int .i64 0, .int .i64 0, .int .i64 0, .int .i64 0, .int .i64 0, .int .i64 0, .int .i64 0] 57)).heap[w.heap.size + 1]? = some (.cells #[.int .i64 0, .int .i64 0, .int .i64 0, .int .i64 0, .int .i64 0, .int .i64 0, .int .i64 0] 57)) := by
      show _ = _
      have := heap_newG (w.alloc (.cells #[.int .i64 t.proto, .int .i64 t.src, .int .i64 t.sport, .int .i64 t.dst, .int .i64 t.dport, .int .i64 t.kind] 52)) (.cells #[.int .i64 0, .int .i64 0, .int .i64 0, .int .i64 0, .int .i64 0, .int .i64 0, .int .i64 0] 57)
      simpa using this
    have hL0 := hidS (((Below.refl w.heap.size w).alloc (Nat.le_refl _) (.cells #[.int .i64 t.proto, .int .i64 t.src, .int .i64 t.sport, .int .i64 t.dst, .int .i64 t.dport, .int .i64 t.kind] 52)).alloc (by simp) (.cells #[.int .i64 0, .int .i64 0, .int .i64 0, .int .i64 0, .int .i64 0, .int .i64 0, .int .i64 0] 57))
    go_enter Try.func26, Try.ntmps26
    go_wp2_with fail
    refine (HRR.out _ hL0.out).mono ?_
    rintro _ w1 ⟨rfl, hb1⟩
    have hGT1 := hidS (blk_later hGT0.out hb1)
    have hGO1 := hidS (blk_later hGO0.out hb1)
    have hL1 := hidS (hL0.out.trans (hb1.mono hL0.out.size))
    clear hb1 hL0 hGT0 hGO0
    rw [h1]
    have cT0 := blk_cell hGT1.out 0
    have cT1 := blk_cell hGT1.out 1
    have cT2 := blk_cell hGT1.out 2
    have cT3 := blk_cell hGT1.out 3
    have cT4 := blk_cell hGT1.out 4
    have cT5 := blk_cell hGT1.out 5
    simp at cT0 cT1 cT2 cT3 cT4 cT5
    go_wp2_with fail
    refine (HTT.out _).mono ?_
    rintro _ w2 ⟨rfl, hb2⟩
    clear cT0 cT1 cT2 cT3 cT4 cT5
    have hGT2 := hidS (blk_later hGT1.out hb2)
    have hGO2 := hidS (blk_later hGO1.out hb2)
    have hL2 := hidS (hL1.out.trans (hb2.mono hL1.out.size))
    clear hb2 hL1 hGT1 hGO1
    rw [h2]
    go_wp2_with fail
    refine (HST.out _).mono ?_
    rintro _ v9 ⟨rfl, hv9⟩
    rw [hv9]
    clear hv9 v9
    rw [h3]
    have kO := blk_cell hGO2.out
    have fO := blk_free hGO2.out
    go_wp2_with fail
    refine bodyPost_ret (v := .agg #[.int .i64 0, .int .i64 0, .int .i64 0, .int .i64 0, .int .i64 0, .int .i64 0, .int .i64 1]) (by simp [results, Try.results26, go_sem, *]) rfl ⟨by rw [E.out.1, E.out.2]; rfl, ?_⟩
    repeat (refine below_at ?_ (by omega))
    exact hL2.out
  by_cases q3 : (60 : Int) < (used.length : Int)
  · have E := hidS (goes_form hsz (hOK.out.trans (by rw [show decide (used.length ≤ 60) = false by simp; omega] <;> simp)))
    have hGT0 : Hid (((w.alloc (.cells #[.int .i64 t.proto, .int .i64 t.src, .int .i64 t.sport, .int .i64 t.dst, .int .i64 t.dport, .int .i64 t.kind] 52)).alloc (.cells #[.int .i64 0, .int .i64 0, .int .i64 0, .int .i64 0, .int .i64 0, .int .i64 0, .int .i64 0] 57)).heap[w.heap.size]? = some (.cells #[.int .i64 t.proto, .int .i64 t.src, .int .i64 t.sport, .int .i64 t.dst, .int .i64 t.dport, .int .i64 t.kind] 52)) := by
      show _ = _
      have := blk_alloc (heap_newG w (.cells #[.int .i64 t.proto, .int .i64 t.src, .int .i64 t.sport, .int .i64 t.dst, .int .i64 t.dport, .int .i64 t.kind] 52)) (.cells #[.int .i64 0, .int .i64 0, .int .i64 0, .int .i64 0, .int .i64 0, .int .i64 0, .int .i64 0] 57)
      simpa using this
    have hGO0 : Hid (((w.alloc (.cells #[.int .i64 t.proto, .int .i64 t.src, .int .i64 t.sport, .int .i64 t.dst, .int .i64 t.dport, .int .i64 t.kind] 52)).alloc (.cells #[.int .i64 0, .int .i64 0, .int .i64 0, .int .i64 0, .int .i64 0, .int .i64 0, .int .i64 0] 57)).heap[w.heap.size + 1]? = some (.cells #[.int .i64 0, .int .i64 0, .int .i64 0, .int .i64 0, .int .i64 0, .int .i64 0, .int .i64 0] 57)) := by
      show _ = _
      have := heap_newG (w.alloc (.cells #[.int .i64 t.proto, .int .i64 t.src, .int .i64 t.sport, .int .i64 t.dst, .int .i64 t.dport, .int .i64 t.kind] 52)) (.cells #[.int .i64 0, .int .i64 0, .int .i64 0, .int .i64 0, .int .i64 0, .int .i64 0, .int .i64 0] 57)
      simpa using this
    have hL0 := hidS (((Below.refl w.heap.size w).alloc (Nat.le_refl _) (.cells #[.int .i64 t.proto, .int .i64 t.src, .int .i64 t.sport, .int .i64 t.dst, .int .i64 t.dport, .int .i64 t.kind] 52)).alloc (by simp) (.cells #[.int .i64 0, .int .i64 0, .int .i64 0, .int .i64 0, .int .i64 0, .int .i64 0, .int .i64 0] 57))
    go_enter Try.func26, Try.ntmps26
    go_wp2_with fail
    refine (HRR.out _ hL0.out).mono ?_
    rintro _ w1 ⟨rfl, hb1⟩
    have hGT1 := hidS (blk_later hGT0.out hb1)
    have hGO1 := hidS (blk_later hGO0.out hb1)
    have hL1 := hidS (hL0.out.trans (hb1.mono hL0.out.size))
    clear hb1 hL0 hGT0 hGO0
    rw [h1]
    have cT0 := blk_cell hGT1.out 0
    have cT1 := blk_cell hGT1.out 1
    have cT2 := blk_cell hGT1.out 2
    have cT3 := blk_cell hGT1.out 3
    have cT4 := blk_cell hGT1.out 4
    have cT5 := blk_cell hGT1.out 5
    simp at cT0 cT1 cT2 cT3 cT4 cT5
    go_wp2_with fail
    refine (HTT.out _).mono ?_
    rintro _ w2 ⟨rfl, hb2⟩
    clear cT0 cT1 cT2 cT3 cT4 cT5
    have hGT2 := hidS (blk_later hGT1.out hb2)
    have hGO2 := hidS (blk_later hGO1.out hb2)
    have hL2 := hidS (hL1.out.trans (hb2.mono hL1.out.size))
    clear hb2 hL1 hGT1 hGO1
    rw [h2]
    go_wp2_with fail
    refine (HST.out _).mono ?_
    rintro _ v9 ⟨rfl, hv9⟩
    rw [hv9]
    clear hv9 v9
    rw [h3]
    have kO := blk_cell hGO2.out
    have fO := blk_free hGO2.out
    go_wp2_with fail
    refine bodyPost_ret (v := .agg #[.int .i64 0, .int .i64 0, .int .i64 0, .int .i64 0, .int .i64 0, .int .i64 0, .int .i64 1]) (by simp [results, Try.results26, go_sem, *]) rfl ⟨by rw [E.out.1, E.out.2]; rfl, ?_⟩
    repeat (refine below_at ?_ (by omega))
    exact hL2.out
  have hOK2 : Hid (goesOk l t start used = allT used) := hOK.out.trans (by rw [h1, h2, h3, show decide (used.length ≤ 60) = true by simp; omega] <;> simp)
  have hal : allR l = true := by have h := h1; unfold rulesB at h; rw [Bool.and_eq_true] at h; exact h.2
  have hst : 0 ≤ start ∧ start ≤ 1000000 := by have h := h3; unfold startB at h; simpa using h
  have HGO := hidS (fun W (h : Below w.heap.size w W) => l08Goes_any a b cap cap2 l used t start W (HR.out.later h) (HU.out.later h) hz (by omega) hal h2 hst.1 hst.2)
  clear hOK hal hst
  have hGT0 : Hid (((w.alloc (.cells #[.int .i64 t.proto, .int .i64 t.src, .int .i64 t.sport, .int .i64 t.dst, .int .i64 t.dport, .int .i64 t.kind] 52)).alloc (.cells #[.int .i64 0, .int .i64 0, .int .i64 0, .int .i64 0, .int .i64 0, .int .i64 0, .int .i64 0] 57)).heap[w.heap.size]? = some (.cells #[.int .i64 t.proto, .int .i64 t.src, .int .i64 t.sport, .int .i64 t.dst, .int .i64 t.dport, .int .i64 t.kind] 52)) := by
    show _ = _
    have := blk_alloc (heap_newG w (.cells #[.int .i64 t.proto, .int .i64 t.src, .int .i64 t.sport, .int .i64 t.dst, .int .i64 t.dport, .int .i64 t.kind] 52)) (.cells #[.int .i64 0, .int .i64 0, .int .i64 0, .int .i64 0, .int .i64 0, .int .i64 0, .int .i64 0] 57)
    simpa using this
  have hGO0 : Hid (((w.alloc (.cells #[.int .i64 t.proto, .int .i64 t.src, .int .i64 t.sport, .int .i64 t.dst, .int .i64 t.dport, .int .i64 t.kind] 52)).alloc (.cells #[.int .i64 0, .int .i64 0, .int .i64 0, .int .i64 0, .int .i64 0, .int .i64 0, .int .i64 0] 57)).heap[w.heap.size + 1]? = some (.cells #[.int .i64 0, .int .i64 0, .int .i64 0, .int .i64 0, .int .i64 0, .int .i64 0, .int .i64 0] 57)) := by
    show _ = _
    have := heap_newG (w.alloc (.cells #[.int .i64 t.proto, .int .i64 t.src, .int .i64 t.sport, .int .i64 t.dst, .int .i64 t.dport, .int .i64 t.kind] 52)) (.cells #[.int .i64 0, .int .i64 0, .int .i64 0, .int .i64 0, .int .i64 0, .int .i64 0, .int .i64 0] 57)
    simpa using this
  have hL0 := hidS (((Below.refl w.heap.size w).alloc (Nat.le_refl _) (.cells #[.int .i64 t.proto, .int .i64 t.src, .int .i64 t.sport, .int .i64 t.dst, .int .i64 t.dport, .int .i64 t.kind] 52)).alloc (by simp) (.cells #[.int .i64 0, .int .i64 0, .int .i64 0, .int .i64 0, .int .i64 0, .int .i64 0, .int .i64 0] 57))
  go_enter Try.func26, Try.ntmps26
  go_wp2_with fail
  refine (HRR.out _ hL0.out).mono ?_
  rintro _ w1 ⟨rfl, hb1⟩
  have hGT1 := hidS (blk_later hGT0.out hb1)
  have hGO1 := hidS (blk_later hGO0.out hb1)
  have hL1 := hidS (hL0.out.trans (hb1.mono hL0.out.size))
  clear hb1 hL0 hGT0 hGO0
  rw [h1]
  have cT0 := blk_cell hGT1.out 0
  have cT1 := blk_cell hGT1.out 1
  have cT2 := blk_cell hGT1.out 2
  have cT3 := blk_cell hGT1.out 3
  have cT4 := blk_cell hGT1.out 4
  have cT5 := blk_cell hGT1.out 5
  simp at cT0 cT1 cT2 cT3 cT4 cT5
  go_wp2_with fail
  refine (HTT.out _).mono ?_
  rintro _ w2 ⟨rfl, hb2⟩
  clear cT0 cT1 cT2 cT3 cT4 cT5
  have hGT2 := hidS (blk_later hGT1.out hb2)
  have hGO2 := hidS (blk_later hGO1.out hb2)
  have hL2 := hidS (hL1.out.trans (hb2.mono hL1.out.size))
  clear hb2 hL1 hGT1 hGO1
  rw [h2]
  go_wp2_with fail
  refine (HST.out _).mono ?_
  rintro _ v9 ⟨rfl, hv9⟩
  rw [hv9]
  clear hv9 v9
  rw [h3]
  go_wp2_with fail
  go_loopw [9] (fun v wr => ∃ k : Nat, v = .int .i64 (k : Int) ∧ k ≤ used.length ∧ Hid (allT (used.take k) = true) ∧ Hid (wr.heap[w.heap.size]? = some (.cells #[.int .i64 t.proto, .int .i64 t.src, .int .i64 t.sport, .int .i64 t.dst, .int .i64 t.dport, .int .i64 t.kind] 52)) ∧ Hid (wr.heap[w.heap.size + 1]? = some (.cells #[.int .i64 0, .int .i64 0, .int .i64 0, .int .i64 0, .int .i64 0, .int .i64 0, .int .i64 0] 57)) ∧ Below w.heap.size w wr) (fun v _ => (used.length - (intOf v).toNat))
  case atStart => exact ⟨0, rfl, Nat.zero_le _, rfl, hGT2, hGO2, hL2.out⟩
  case round =>
    clear hGT2 hGO2 hL2
    obtain ⟨k, rfl, hk, hA, hGT5, hGO5, hb5⟩ := hrel
    obtain ⟨w5, hww⟩ : ∃ x, x = wr := ⟨_, rfl⟩
    subst hww
    have hL5 := hidS hb5
    clear hb5
    by_cases hlt : k < used.length
    · skip
      have hlt' : (k : Int) < (used.length : Int) := by omega
      obtain ⟨bb, oo, rfl, hbl, c0, c1, c2, c3, c4, c5⟩ := (HU.out.later hL5.out).tuple hlt
      have HT := hidS (fun W => specTRight_any (used.getD k zeroTp) W)
      have hbad := hidS (fun q => allT_bad hlt q)
      have hnx := hidS (allT_take hlt)
      generalize used.getD k zeroTp = s at *
      go_wp2_with fail
      refine (HT.out _).mono ?_
      rintro _ w6 ⟨rfl, hb6⟩
      have hGT6 := hidS (blk_later hGT5.out hb6)
      have hGO6 := hidS (blk_later hGO5.out hb6)
      have hL6 := hidS (hL5.out.trans (hb6.mono hL5.out.size))
      clear hb6 hL5 hGT5 hGO5 c0 c1 c2 c3 c4 c5
      cases hq : rightT s
      · have E := hidS (goes_form hsz (hOK2.out.trans (hbad.out hq)))
        clear hOK2 hbad hnx hA HGO
        have kO := blk_cell hGO6.out
        have fO := blk_free hGO6.out
        go_wp2_with fail
        refine bodyPost_ret (v := .agg #[.int .i64 0, .int .i64 0, .int .i64 0, .int .i64 0, .int .i64 0, .int .i64 0, .int .i64 1]) (by simp [results, Try.results26, go_sem, *]) rfl ⟨by rw [E.out.1, E.out.2]; rfl, ?_⟩
        repeat (refine below_at ?_ (by omega))
        exact hL6.out
      · have hN : Hid (allT (used.take (k + 1)) = true) := hnx.out.trans (by rw [hA.out, hq] <;> rfl)
        clear hbad hnx hA HGO hOK2
        go_wp2_with fail
        go_roundw
        case rel => exact ⟨k + 1, by simp, by omega, hN, hGT6, hGO6, hL6.out⟩
        case measure => simp [intOf]; omega
    · have hge : ¬ (k : Int) < (used.length : Int) := by omega
      have E := hidS (goes_ok (t := t) (start := start) hsz (hOK2.out.trans (by have := hA.out; rw [List.take_of_length_le (by omega)] at this; exact this)))
      clear hA hlt hOK2
      have cT0 := blk_cell hGT5.out 0
      have cT1 := blk_cell hGT5.out 1
      have cT2 := blk_cell hGT5.out 2
      have cT3 := blk_cell hGT5.out 3
      have cT4 := blk_cell hGT5.out 4
      have cT5 := blk_cell hGT5.out 5
      simp at cT0 cT1 cT2 cT3 cT4 cT5
      go_wp2_with fail
      refine (HGO.out _ hL5.out).mono ?_
      rintro _ w6 ⟨rfl, hb6⟩
      have hGO6 := hidS (blk_later hGO5.out hb6)
      have hL6 := hidS (hL5.out.trans (hb6.mono hL5.out.size))
      clear hb6 hL5 hGO5 hGT5 HGO cT0 cT1 cT2 cT3 cT4 cT5
      have kO := blk_cell hGO6.out
      have fO := blk_free hGO6.out
      go_wp2_with fail
      refine bodyPost_ret (v := .agg #[.int .i64 (tupF (goesF l t start used)).proto, .int .i64 (tupF (goesF l t start used)).src, .int .i64 (tupF (goesF l t start used)).sport, .int .i64 (tupF (goesF l t start used)).dst, .int .i64 (tupF (goesF l t start used)).dport, .int .i64 (tupF (goesF l t start used)).kind, .int .i64 (codeF (goesF l t start used))]) (by simp [results, Try.results26, go_sem, *]) rfl ⟨by rw [E.out.1, E.out.2], ?_⟩
      repeat (refine below_at ?_ (by omega))
      exact hL6.out
end Go.Proofs.Ytilajoafppplcaa
