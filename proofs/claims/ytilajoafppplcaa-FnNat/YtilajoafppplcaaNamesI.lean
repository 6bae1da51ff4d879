/- Proved here: impl.withSender and impl.withGoal answer a tuple with another sender, and with the goal that the rules name; all old memory stays (conditions: right rules that can be read, a right tuple). -/
import Derived.Test.YtilajoafppplcaaFirstI
import Derived.Test.YtilajoafppplcaaAll17
import Derived.Deep.Cut
namespace Go.Proofs.Ytilajoafppplcaa
open Go.ChangeShapes Go.WideShapes Go.ChangeAt Go.RowKit
set_option linter.unusedVariables false
set_option linter.unusedSimpArgs false
set_option maxRecDepth 100000

set_option maxHeartbeats 2000000 in
theorem withSender_any (t : Tp) (a p : Int) (w : World) :
    Calls Try.prog 112 #[.agg #[.int .i64 t.proto, .int .i64 t.src, .int .i64 t.sport, .int .i64 t.dst, .int .i64 t.dport, .int .i64 t.kind], .int .i64 a, .int .i64 p] w fun e w' => e = .returned (.agg #[.int .i64 (senderT t a p).proto, .int .i64 (senderT t a p).src, .int .i64 (senderT t a p).sport, .int .i64 (senderT t a p).dst, .int .i64 (senderT t a p).dport, .int .i64 (senderT t a p).kind]) ∧ Below w.heap.size w w' := by
  by_cases h : t.proto = 1
  · have E : Hid (senderT t a p = ⟨t.proto, a, p, t.dst, p, t.kind⟩) := by show senderT t a p = _; unfold senderT; rw [if_pos h]
    have b1 : (t.proto == 1) = true := by simp [h]
    clear h
    have hGT0 : Hid (((w.alloc (.cells #[.int .i64 t.proto, .int .i64 t.src, .int .i64 t.sport, .int .i64 t.dst, .int .i64 t.dport, .int .i64 t.kind] 52)).alloc (.cells #[.int .i64 0, .int .i64 0, .int .i64 0, .int .i64 0, .int .i64 0, .int .i64 0] 52)).heap[w.heap.size]? = some (.cells #[.int .i64 t.proto, .int .i64 t.src, .int .i64 t.sport, .int .i64 t.dst, .int .i64 t.dport, .int .i64 t.kind] 52)) := by
      show _ = _
      have := blk_alloc (heap_newG w (.cells #[.int .i64 t.proto, .int .i64 t.src, .int .i64 t.sport, .int .i64 t.dst, .int .i64 t.dport, .int .i64 t.kind] 52)) (.cells #[.int .i64 0, .int .i64 0, .int .i64 0, .int .i64 0, .int .i64 0, .int .i64 0] 52)
      simpa using this
    have hGO0 : Hid (((w.alloc (.cells #[.int .i64 t.proto, .int .i64 t.src, .int .i64 t.sport, .int .i64 t.dst, .int .i64 t.dport, .int .i64 t.kind] 52)).alloc (.cells #[.int .i64 0, .int .i64 0, .int .i64 0, .int .i64 0, .int .i64 0, .int .i64 0] 52)).heap[w.heap.size + 1]? = some (.cells #[.int .i64 0, .int .i64 0, .int .i64 0, .int .i64 0, .int .i64 0, .int .i64 0] 52)) := by
      show _ = _
      have := heap_newG (w.alloc (.cells #[.int .i64 t.proto, .int .i64 t.src, .int .i64 t.sport, .int .i64 t.dst, .int .i64 t.dport, .int .i64 t.kind] 52)) (.cells #[.int .i64 0, .int .i64 0, .int .i64 0, .int .i64 0, .int .i64 0, .int .i64 0] 52)
      simpa using this
    have hL0 := hidS (((Below.refl w.heap.size w).alloc (Nat.le_refl _) (.cells #[.int .i64 t.proto, .int .i64 t.src, .int .i64 t.sport, .int .i64 t.dst, .int .i64 t.dport, .int .i64 t.kind] 52)).alloc (by simp) (.cells #[.int .i64 0, .int .i64 0, .int .i64 0, .int .i64 0, .int .i64 0, .int .i64 0] 52))
    go_enter Try.func112, Try.ntmps112
    go_upto_region 1 with fail
    generalize ((w.alloc (.cells #[.int .i64 t.proto, .int .i64 t.src, .int .i64 t.sport, .int .i64 t.dst, .int .i64 t.dport, .int .i64 t.kind] 52)).alloc (.cells #[.int .i64 0, .int .i64 0, .int .i64 0, .int .i64 0, .int .i64 0, .int .i64 0] 52)) = w0 at hGT0 hGO0 hL0 ⊢
    have cT0 := blk_cell hGT0.out 0
    have cT1 := blk_cell hGT0.out 1
    have cT2 := blk_cell hGT0.out 2
    have cT3 := blk_cell hGT0.out 3
    have cT4 := blk_cell hGT0.out 4
    have cT5 := blk_cell hGT0.out 5
    simp at cT0 cT1 cT2 cT3 cT4 cT5
    have kO := blk_cell hGO0.out
    have fO := blk_free hGO0.out
    have fT := blk_free hGT0.out
    go_wp2_with fail
    refine bodyPost_ret (v := .agg #[.int .i64 t.proto, .int .i64 a, .int .i64 p, .int .i64 t.dst, .int .i64 p, .int .i64 t.kind]) (by simp [results, Try.results112, go_sem, *]) rfl ⟨by rw [E.out], ?_⟩
    repeat (refine below_at ?_ (by omega))
    exact hL0.out
  · have E : Hid (senderT t a p = ⟨t.proto, a, p, t.dst, t.dport, t.kind⟩) := by show senderT t a p = _; unfold senderT; rw [if_neg h]
    have b1 : (t.proto == 1) = false := by simp [h]
    clear h
    have hGT0 : Hid (((w.alloc (.cells #[.int .i64 t.proto, .int .i64 t.src, .int .i64 t.sport, .int .i64 t.dst, .int .i64 t.dport, .int .i64 t.kind] 52)).alloc (.cells #[.int .i64 0, .int .i64 0, .int .i64 0, .int .i64 0, .int .i64 0, .int .i64 0] 52)).heap[w.heap.size]? = some (.cells #[.int .i64 t.proto, .int .i64 t.src, .int .i64 t.sport, .int .i64 t.dst, .int .i64 t.dport, .int .i64 t.kind] 52)) := by
      show _ = _
      have := blk_alloc (heap_newG w (.cells #[.int .i64 t.proto, .int .i64 t.src, .int .i64 t.sport, .int .i64 t.dst, .int .i64 t.dport, .int .i64 t.kind] 52)) (.cells #[.int .i64 0, .int .i64 0, .int .i64 0, .int .i64 0, .int .i64 0, .int .i64 0] 52)
      simpa using this
    have hGO0 : Hid (((w.alloc (.cells #[.int .i64 t.proto, .int .i64 t.src, .int .i64 t.sport, .int .i64 t.dst, .int .i64 t.dport, .int .i64 t.kind] 52)).alloc (.cells #[.int .i64 0, .int .i64 0, .int .i64 0, .int .i64 0, .int .i64 0, .int .i64 0] 52)).heap[w.heap.size + 1]? = some (.cells #[.int .i64 0, .int .i64 0, .int .i64 0, .int .i64 0, .int .i64 0, .int .i64 0] 52)) := by
      show _ = _
      have := heap_newG (w.alloc (.cells #[.int .i64 t.proto, .int .i64 t.src, .int .i64 t.sport, .int .i64 t.dst, .int .i64 t.dport, .int .i64 t.kind] 52)) (.cells #[.int .i64 0, .int .i64 0, .int .i64 0, .int .i64 0, .int .i64 0, .int .i64 0] 52)
      simpa using this
    have hL0 := hidS (((Below.refl w.heap.size w).alloc (Nat.le_refl _) (.cells #[.int .i64 t.proto, .int .i64 t.src, .int .i64 t.sport, .int .i64 t.dst, .int .i64 t.dport, .int .i64 t.kind] 52)).alloc (by simp) (.cells #[.int .i64 0, .int .i64 0, .int .i64 0, .int .i64 0, .int .i64 0, .int .i64 0] 52))
    go_enter Try.func112, Try.ntmps112
    go_upto_region 1 with fail
    generalize ((w.alloc (.cells #[.int .i64 t.proto, .int .i64 t.src, .int .i64 t.sport, .int .i64 t.dst, .int .i64 t.dport, .int .i64 t.kind] 52)).alloc (.cells #[.int .i64 0, .int .i64 0, .int .i64 0, .int .i64 0, .int .i64 0, .int .i64 0] 52)) = w0 at hGT0 hGO0 hL0 ⊢
    have cT0 := blk_cell hGT0.out 0
    have cT1 := blk_cell hGT0.out 1
    have cT2 := blk_cell hGT0.out 2
    have cT3 := blk_cell hGT0.out 3
    have cT4 := blk_cell hGT0.out 4
    have cT5 := blk_cell hGT0.out 5
    simp at cT0 cT1 cT2 cT3 cT4 cT5
    have kO := blk_cell hGO0.out
    have fO := blk_free hGO0.out
    have fT := blk_free hGT0.out
    go_wp2_with fail
    refine bodyPost_ret (v := .agg #[.int .i64 t.proto, .int .i64 a, .int .i64 p, .int .i64 t.dst, .int .i64 t.dport, .int .i64 t.kind]) (by simp [results, Try.results112, go_sem, *]) rfl ⟨by rw [E.out], ?_⟩
    repeat (refine below_at ?_ (by omega))
    exact hL0.out
set_option maxHeartbeats 4000000 in
theorem withGoal_any (a : Option Addr) (cap : Nat) (l : List Rl) (t : Tp) (w : World) (hR : RowZ a (flatRule l) w) (hz : l.length ≤ 1048576) (hr : allR l = true) (ht : rightT t = true) :
    Calls Try.prog 70 #[.slice a l.length cap, .agg #[.int .i64 t.proto, .int .i64 t.src, .int .i64 t.sport, .int .i64 t.dst, .int .i64 t.dport, .int .i64 t.kind]] w fun e w' => e = .returned (.agg #[.int .i64 (goalT l t).proto, .int .i64 (goalT l t).src, .int .i64 (goalT l t).sport, .int .i64 (goalT l t).dst, .int .i64 (goalT l t).dport, .int .i64 (goalT l t).kind]) ∧ Below w.heap.size w w' := by
  have HR := hidS hR
  have HF2 := hidS (fun W (h : Below w.heap.size w W) => firstRule_any a cap l 2 t W (HR.out.later h) hz hr ht)
  have HG0 : Hid (goalT l t = if hasR l 2 t = true then ⟨t.proto, t.src, t.sport, (foundR l 2 t).goal, if 0 < (foundR l 2 t).low ∧ t.proto ≠ 1 then (foundR l 2 t).low else t.dport, t.kind⟩ else t) := rfl
  clear hR hr ht
  obtain ⟨d, hd⟩ : ∃ x, foundR l 2 t = x := ⟨_, rfl⟩
  obtain ⟨h2, hh2⟩ : ∃ x, hasR l 2 t = x := ⟨_, rfl⟩
  rw [hd, hh2] at HF2 HG0
  clear hd hh2
  have hGT0 : Hid (((w.alloc (.cells #[.int .i64 t.proto, .int .i64 t.src, .int .i64 t.sport, .int .i64 t.dst, .int .i64 t.dport, .int .i64 t.kind] 52)).alloc (.cells #[.int .i64 0, .int .i64 0, .int .i64 0, .int .i64 0, .int .i64 0, .int .i64 0] 52)).heap[w.heap.size]? = some (.cells #[.int .i64 t.proto, .int .i64 t.src, .int .i64 t.sport, .int .i64 t.dst, .int .i64 t.dport, .int .i64 t.kind] 52)) := by
    show _ = _
    have := blk_alloc (heap_newG w (.cells #[.int .i64 t.proto, .int .i64 t.src, .int .i64 t.sport, .int .i64 t.dst, .int .i64 t.dport, .int .i64 t.kind] 52)) (.cells #[.int .i64 0, .int .i64 0, .int .i64 0, .int .i64 0, .int .i64 0, .int .i64 0] 52)
    simpa using this
  have hGO0 : Hid (((w.alloc (.cells #[.int .i64 t.proto, .int .i64 t.src, .int .i64 t.sport, .int .i64 t.dst, .int .i64 t.dport, .int .i64 t.kind] 52)).alloc (.cells #[.int .i64 0, .int .i64 0, .int .i64 0, .int .i64 0, .int .i64 0, .int .i64 0] 52)).heap[w.heap.size + 1]? = some (.cells #[.int .i64 0, .int .i64 0, .int .i64 0, .int .i64 0, .int .i64 0, .int .i64 0] 52)) := by
    show _ = _
    have := heap_newG (w.alloc (.cells #[.int .i64 t.proto, .int .i64 t.src, .int .i64 t.sport, .int .i64 t.dst, .int .i64 t.dport, .int .i64 t.kind] 52)) (.cells #[.int .i64 0, .int .i64 0, .int .i64 0, .int .i64 0, .int .i64 0, .int .i64 0] 52)
    simpa using this
  have hL0 := hidS (((Below.refl w.heap.size w).alloc (Nat.le_refl _) (.cells #[.int .i64 t.proto, .int .i64 t.src, .int .i64 t.sport, .int .i64 t.dst, .int .i64 t.dport, .int .i64 t.kind] 52)).alloc (by simp) (.cells #[.int .i64 0, .int .i64 0, .int .i64 0, .int .i64 0, .int .i64 0, .int .i64 0] 52))
  go_enter Try.func70, Try.ntmps70
  have cT0 := blk_cell hGT0.out 0
  have cT1 := blk_cell hGT0.out 1
  have cT2 := blk_cell hGT0.out 2
  have cT3 := blk_cell hGT0.out 3
  have cT4 := blk_cell hGT0.out 4
  have cT5 := blk_cell hGT0.out 5
  simp at cT0 cT1 cT2 cT3 cT4 cT5
  go_wp2_with fail
  refine (HF2.out _ hL0.out).mono ?_
  rintro _ w1 ⟨rfl, hb1⟩
  have hGT1 := hidS (blk_later hGT0.out hb1)
  have hGO1 := hidS (blk_later hGO0.out hb1)
  have hL1 := hidS (hL0.out.trans (hb1.mono hL0.out.size))
  clear hb1 hL0 hGT0 hGO0 HF2 cT0 cT1 cT2 cT3 cT4 cT5
  go_upto_region 2 with fail
  have hGD2 := hidS (heap_newG w1 (.cells #[.int .i64 d.kind, .int .i64 d.proto, .int .i64 d.net, .int .i64 d.bits, .int .i64 d.goal, .int .i64 d.low, .int .i64 d.high] 64))
  have nD := blk_lt hGO1.out
  have hGT2 := hidS (blk_alloc hGT1.out (.cells #[.int .i64 d.kind, .int .i64 d.proto, .int .i64 d.net, .int .i64 d.bits, .int .i64 d.goal, .int .i64 d.low, .int .i64 d.high] 64))
  have hGO2 := hidS (blk_alloc hGO1.out (.cells #[.int .i64 d.kind, .int .i64 d.proto, .int .i64 d.net, .int .i64 d.bits, .int .i64 d.goal, .int .i64 d.low, .int .i64 d.high] 64))
  have hL2 := hidS (hL1.out.alloc hL1.out.size (.cells #[.int .i64 d.kind, .int .i64 d.proto, .int .i64 d.net, .int .i64 d.bits, .int .i64 d.goal, .int .i64 d.low, .int .i64 d.high] 64))
  clear hL1 hGT1 hGO1
  generalize w1.alloc (.cells #[.int .i64 d.kind, .int .i64 d.proto, .int .i64 d.net, .int .i64 d.bits, .int .i64 d.goal, .int .i64 d.low, .int .i64 d.high] 64) = w2 at hGT2 hGO2 hGD2 hL2 ⊢
  cases h2
  · have E : Hid (goalT l t = t) := HG0.out.trans (by simp)
    clear HG0
    have cT0 := blk_cell hGT2.out 0
    have cT1 := blk_cell hGT2.out 1
    have cT2 := blk_cell hGT2.out 2
    have cT3 := blk_cell hGT2.out 3
    have cT4 := blk_cell hGT2.out 4
    have cT5 := blk_cell hGT2.out 5
    simp at cT0 cT1 cT2 cT3 cT4 cT5
    have cD0 := blk_cell hGD2.out 0
    have cD1 := blk_cell hGD2.out 1
    have cD2 := blk_cell hGD2.out 2
    have cD3 := blk_cell hGD2.out 3
    have cD4 := blk_cell hGD2.out 4
    have cD5 := blk_cell hGD2.out 5
    have cD6 := blk_cell hGD2.out 6
    simp at cD0 cD1 cD2 cD3 cD4 cD5 cD6
    have kO := blk_cell hGO2.out
    have fO := blk_free hGO2.out
    have fT := blk_free hGT2.out
    go_wp2_with fail
    refine bodyPost_ret (v := .agg #[.int .i64 t.proto, .int .i64 t.src, .int .i64 t.sport, .int .i64 t.dst, .int .i64 t.dport, .int .i64 t.kind]) (by simp [results, Try.results70, go_sem, *]) rfl ⟨by rw [E.out], ?_⟩
    repeat (refine below_at ?_ (by omega))
    exact hL2.out
  by_cases q1 : 0 < d.low
  · by_cases q2 : t.proto = 1
    · have E : Hid (goalT l t = ⟨t.proto, t.src, t.sport, d.goal, t.dport, t.kind⟩) := HG0.out.trans (by simp [q1, q2])
      clear HG0
      have q1' : d.low > 0 := q1
      have b2 : (t.proto != 1) = false := by simp [q2]
      clear q2
      have cT0 := blk_cell hGT2.out 0
      have cT1 := blk_cell hGT2.out 1
      have cT2 := blk_cell hGT2.out 2
      have cT3 := blk_cell hGT2.out 3
      have cT4 := blk_cell hGT2.out 4
      have cT5 := blk_cell hGT2.out 5
      simp at cT0 cT1 cT2 cT3 cT4 cT5
      have cD0 := blk_cell hGD2.out 0
      have cD1 := blk_cell hGD2.out 1
      have cD2 := blk_cell hGD2.out 2
      have cD3 := blk_cell hGD2.out 3
      have cD4 := blk_cell hGD2.out 4
      have cD5 := blk_cell hGD2.out 5
      have cD6 := blk_cell hGD2.out 6
      simp at cD0 cD1 cD2 cD3 cD4 cD5 cD6
      have kO := blk_cell hGO2.out
      have fO := blk_free hGO2.out
      have fT := blk_free hGT2.out
      go_wp2_with fail
      refine bodyPost_ret (v := .agg #[.int .i64 t.proto, .int .i64 t.src, .int .i64 t.sport, .int .i64 d.goal, .int .i64 t.dport, .int .i64 t.kind]) (by simp [results, Try.results70, go_sem, *]) rfl ⟨by rw [E.out], ?_⟩
      repeat (refine below_at ?_ (by omega))
      exact hL2.out
    · have E : Hid (goalT l t = ⟨t.proto, t.src, t.sport, d.goal, d.low, t.kind⟩) := HG0.out.trans (by simp [q1, q2])
      clear HG0
      have q1' : d.low > 0 := q1
      have b2 : (t.proto != 1) = true := by simp [q2]
      clear q2
      have cT0 := blk_cell hGT2.out 0
      have cT1 := blk_cell hGT2.out 1
      have cT2 := blk_cell hGT2.out 2
      have cT3 := blk_cell hGT2.out 3
      have cT4 := blk_cell hGT2.out 4
      have cT5 := blk_cell hGT2.out 5
      simp at cT0 cT1 cT2 cT3 cT4 cT5
      have cD0 := blk_cell hGD2.out 0
      have cD1 := blk_cell hGD2.out 1
      have cD2 := blk_cell hGD2.out 2
      have cD3 := blk_cell hGD2.out 3
      have cD4 := blk_cell hGD2.out 4
      have cD5 := blk_cell hGD2.out 5
      have cD6 := blk_cell hGD2.out 6
      simp at cD0 cD1 cD2 cD3 cD4 cD5 cD6
      have kO := blk_cell hGO2.out
      have fO := blk_free hGO2.out
      have fT := blk_free hGT2.out
      go_wp2_with fail
      refine bodyPost_ret (v := .agg #[.int .i64 t.proto, .int .i64 t.src, .int .i64 t.sport, .int .i64 d.goal, .int .i64 d.low, .int .i64 t.kind]) (by simp [results, Try.results70, go_sem, *]) rfl ⟨by rw [E.out], ?_⟩
      repeat (refine below_at ?_ (by omega))
      exact hL2.out
  · have E : Hid (goalT l t = ⟨t.proto, t.src, t.sport, d.goal, t.dport, t.kind⟩) := HG0.out.trans (by simp [q1])
    clear HG0
    have q1' : ¬ d.low > 0 := q1
    have cT0 := blk_cell hGT2.out 0
    have cT1 := blk_cell hGT2.out 1
    have cT2 := blk_cell hGT2.out 2
    have cT3 := blk_cell hGT2.out 3
    have cT4 := blk_cell hGT2.out 4
    have cT5 := blk_cell hGT2.out 5
    simp at cT0 cT1 cT2 cT3 cT4 cT5
    have cD0 := blk_cell hGD2.out 0
    have cD1 := blk_cell hGD2.out 1
    have cD2 := blk_cell hGD2.out 2
    have cD3 := blk_cell hGD2.out 3
    have cD4 := blk_cell hGD2.out 4
    have cD5 := blk_cell hGD2.out 5
    have cD6 := blk_cell hGD2.out 6
    simp at cD0 cD1 cD2 cD3 cD4 cD5 cD6
    have kO := blk_cell hGO2.out
    have fO := blk_free hGO2.out
    have fT := blk_free hGT2.out
    go_wp2_with fail
    refine bodyPost_ret (v := .agg #[.int .i64 t.proto, .int .i64 t.src, .int .i64 t.sport, .int .i64 d.goal, .int .i64 t.dport, .int .i64 t.kind]) (by simp [results, Try.results70, go_sem, *]) rfl ⟨by rw [E.out], ?_⟩
    repeat (refine below_at ?_ (by omega))
    exact hL2.out
end Go.Proofs.Ytilajoafppplcaa
