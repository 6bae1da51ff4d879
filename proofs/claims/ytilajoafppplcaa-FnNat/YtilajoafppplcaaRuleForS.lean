/- Proved here: spec.RuleFor answers the first of right rules that holds for a right tuple; all old memory stays (conditions: the rules can be read; at most 2^20). -/
import Derived.Test.YtilajoafppplcaaForS
import Derived.Test.YtilajoafppplcaaAll24
import Derived.Deep.Cut
namespace Go.Proofs.Ytilajoafppplcaa
open Go.ChangeShapes Go.WideShapes Go.ChangeAt Go.RowKit
set_option linter.unusedVariables false
set_option linter.unusedSimpArgs false
set_option maxRecDepth 100000

set_option maxHeartbeats 4000000 in
theorem specRuleFor_any (a : Option Addr) (cap : Nat) (l : List Rl) (kind : Int) (t : Tp) (w : World) (hR : RowZ a (flatRule l) w) (hz : l.length ≤ 1048576) :
    Calls Try.prog 28 #[.slice a l.length cap, .int .i64 kind, .agg #[.int .i64 t.proto, .int .i64 t.src, .int .i64 t.sport, .int .i64 t.dst, .int .i64 t.dport, .int .i64 t.kind]] w fun e w' => e = .returned (.agg #[.int .i64 (ruleAns l kind t).kind, .int .i64 (ruleAns l kind t).proto, .int .i64 (ruleAns l kind t).net, .int .i64 (ruleAns l kind t).bits, .int .i64 (ruleAns l kind t).goal, .int .i64 (ruleAns l kind t).low, .int .i64 (ruleAns l kind t).high]) ∧ Below w.heap.size w w' := by
  have HR := hidS hR
  have HU := hidS (fun W (h : Below w.heap.size w W) => specRules_any a cap l W (HR.out.later h) hz)
  have HT := hidS (fun W => specTRight_any t W)
  clear hR
  by_cases h400 : (400 : Int) < (l.length : Int)
  · have hu : rulesB l = false := by unfold rulesB; rw [show decide (l.length ≤ 6) = false by simp; omega]; rfl
    have E : Hid (ruleAns l kind t = zeroRl) := if_neg (by unfold ruleB; rw [hu]; simp)
    have hGT0 : Hid (((w.alloc (.cells #[.int .i64 t.proto, .int .i64 t.src, .int .i64 t.sport, .int .i64 t.dst, .int .i64 t.dport, .int .i64 t.kind] 52)).alloc (.cells #[.int .i64 0, .int .i64 0, .int .i64 0, .int .i64 0, .int .i64 0, .int .i64 0, .int .i64 0] 64)).heap[w.heap.size]? = some (.cells #[.int .i64 t.proto, .int .i64 t.src, .int .i64 t.sport, .int .i64 t.dst, .int .i64 t.dport, .int .i64 t.kind] 52)) := by
      show _ = _
      have := blk_alloc (heap_newG w (.cells #[.int .i64 t.proto, .int .i64 t.src, .int .i64 t.sport, .int .i64 t.dst, .int .i64 t.dport, .int .i64 t.kind] 52)) (.cells #[.int .i64 0, .int .i64 0, .int .i64 0, .int .i64 0, .int .i64 0, .int .i64 0, .int .i64 0] 64)
      simpa using this
    have hGO0 : Hid (((w.alloc (.cells #[.int .i64 t.proto, .int .i64 t.src, .int .i64 t.sport, .int .i64 t.dst, .int .i64 t.dport, .int .i64 t.kind] 52)).alloc (.cells #[.int .i64 0, .int .i64 0, .int .i64 0, .int .i64 0, .int .i64 0, .int .i64 0, .int .i64 0] 64)).heap[w.heap.size + 1]? = some (.cells #[.int .i64 0, .int .i64 0, .int .i64 0, .int .i64 0, .int .i64 0, .int .i64 0, .int .i64 0] 64)) := by
      show _ = _
      have := heap_newG (w.alloc (.cells #[.int .i64 t.proto, .int .i64 t.src, .int .i64 t.sport, .int .i64 t.dst, .int .i64 t.dport, .int .i64 t.kind] 52)) (.cells #[.int .i64 0, .int .i64 0, .int .i64 0, .int .i64 0, .int .i64 0, .int .i64 0, .int .i64 0] 64)
      simpa using this
    have hL0 := hidS (((Below.refl w.heap.size w).alloc (Nat.le_refl _) (.cells #[.int .i64 t.proto, .int .i64 t.src, .int .i64 t.sport, .int .i64 t.dst, .int .i64 t.dport, .int .i64 t.kind] 52)).alloc (by simp) (.cells #[.int .i64 0, .int .i64 0, .int .i64 0, .int .i64 0, .int .i64 0, .int .i64 0, .int .i64 0] 64))
    go_enter Try.func28, Try.ntmps28
    have kO := blk_cell hGO0.out
    have fO := blk_free hGO0.out
    go_wp2_with fail
    refine bodyPost_ret (v := .agg #[.int .i64 zeroRl.kind, .int .i64 zeroRl.proto, .int .i64 zeroRl.net, .int .i64 zeroRl.bits, .int .i64 zeroRl.goal, .int .i64 zeroRl.low, .int .i64 zeroRl.high]) (by simp [results, Try.results28, go_sem, zeroRl, *]) rfl ⟨by rw [E.out], ?_⟩
    repeat (refine below_at ?_ (by omega))
    exact hL0.out
  cases hu : rulesB l
  · have E : Hid (ruleAns l kind t = zeroRl) := if_neg (by unfold ruleB; rw [hu]; simp)
    have hGT0 : Hid (((w.alloc (.cells #[.int .i64 t.proto, .int .i64 t.src, .int .i64 t.sport, .int .i64 t.dst, .int .i64 t.dport, .int .i64 t.kind] 52)).alloc (.cells #[.int .i64 0, .int .i64 0, .int .i64 0, .int .i64 0, .int .i64 0, .int .i64 0, .int .i64 0] 64)).heap[w.heap.size]? = some (.cells #[.int .i64 t.proto, .int .i64 t.src, .int .i64 t.sport, .int .i64 t.dst, .int .i64 t.dport, .int .i64 t.kind] 52)) := by
      show _ = _
      have := blk_alloc (heap_newG w (.cells #[.int .i64 t.proto, .int .i64 t.src, .int .i64 t.sport, .int .i64 t.dst, .int .i64 t.dport, .int .i64 t.kind] 52)) (.cells #[.int .i64 0, .int .i64 0, .int .i64 0, .int .i64 0, .int .i64 0, .int .i64 0, .int .i64 0] 64)
      simpa using this
    have hGO0 : Hid (((w.alloc (.cells #[.int .i64 t.proto, .int .i64 t.src, .int .i64 t.sport, .int .i64 t.dst, .int .i64 t.dport, .int .i64 t.kind] 52)).alloc (.cells #[.int .i64 0, .int .i64 0, .int .i64 0, .int .i64 0, .int .i64 0, .int .i64 0, .int .i64 0] 64)).heap[w.heap.size + 1]? = some (.cells #[.int .i64 0, .int .i64 0, .int .i64 0, .int .i64 0, .int .i64 0, .int .i64 0, .int .i64 0] 64)) := by
      show _ = _
      have := heap_newG (w.alloc (.cells #[.int .i64 t.proto, .int .i64 t.src, .int .i64 t.sport, .int .i64 t.dst, .int .i64 t.dport, .int .i64 t.kind] 52)) (.cells #[.int .i64 0, .int .i64 0, .int .i64 0, .int .i64 0, .int .i64 0, .int .i64 0, .int .i64 0] 64)
      simpa using this
    have hL0 := hidS (((Below.refl w.heap.size w).alloc (Nat.le_refl _) (.cells #[.int .i64 t.proto, .int .i64 t.src, .int .i64 t.sport, .int .i64 t.dst, .int .i64 t.dport, .int .i64 t.kind] 52)).alloc (by simp) (.cells #[.int .i64 0, .int .i64 0, .int .i64 0, .int .i64 0, .int .i64 0, .int .i64 0, .int .i64 0] 64))
    go_enter Try.func28, Try.ntmps28
    go_wp2_with fail
    refine (HU.out _ hL0.out).mono ?_
    rintro _ w1 ⟨rfl, hb1⟩
    have hGT1 := hidS (blk_later hGT0.out hb1)
    have hGO1 := hidS (blk_later hGO0.out hb1)
    have hL1 := hidS (hL0.out.trans (hb1.mono hL0.out.size))
    clear hb1 hL0 hGT0 hGO0
    rw [hu]
    have kO := blk_cell hGO1.out
    have fO := blk_free hGO1.out
    go_wp2_with fail
    refine bodyPost_ret (v := .agg #[.int .i64 zeroRl.kind, .int .i64 zeroRl.proto, .int .i64 zeroRl.net, .int .i64 zeroRl.bits, .int .i64 zeroRl.goal, .int .i64 zeroRl.low, .int .i64 zeroRl.high]) (by simp [results, Try.results28, go_sem, zeroRl, *]) rfl ⟨by rw [E.out], ?_⟩
    repeat (refine below_at ?_ (by omega))
    exact hL1.out
  have hal : allR l = true := by have h := hu; unfold rulesB at h; rw [Bool.and_eq_true] at h; exact h.2
  by_cases k1 : kind = 1
  · subst k1
    have hk : kindB 1 = true := rfl
    cases ht : rightT t
    · have E : Hid (ruleAns l 1 t = zeroRl) := if_neg (by unfold ruleB; rw [ht]; simp)
      have hGT0 : Hid (((w.alloc (.cells #[.int .i64 t.proto, .int .i64 t.src, .int .i64 t.sport, .int .i64 t.dst, .int .i64 t.dport, .int .i64 t.kind] 52)).alloc (.cells #[.int .i64 0, .int .i64 0, .int .i64 0, .int .i64 0, .int .i64 0, .int .i64 0, .int .i64 0] 64)).heap[w.heap.size]? = some (.cells #[.int .i64 t.proto, .int .i64 t.src, .int .i64 t.sport, .int .i64 t.dst, .int .i64 t.dport, .int .i64 t.kind] 52)) := by
        show _ = _
        have := blk_alloc (heap_newG w (.cells #[.int .i64 t.proto, .int .i64 t.src, .int .i64 t.sport, .int .i64 t.dst, .int .i64 t.dport, .int .i64 t.kind] 52)) (.cells #[.int .i64 0, .int .i64 0, .int .i64 0, .int .i64 0, .int .i64 0, .int .i64 0, .int .i64 0] 64)
        simpa using this
      have hGO0 : Hid (((w.alloc (.cells #[.int .i64 t.proto, .int .i64 t.src, .int .i64 t.sport, .int .i64 t.dst, .int .i64 t.dport, .int .i64 t.kind] 52)).alloc (.cells #[.int .i64 0, .int .i64 0, .int .i64 0, .int .i64 0, .int .i64 0, .int .i64 0, .int .i64 0] 64)).heap[w.heap.size + 1]? = some (.cells #[.int .i64 0, .int .i64 0, .int .i64 0, .int .i64 0, .int .i64 0, .int .i64 0, .int .i64 0] 64)) := by
        show _ = _
        have := heap_newG (w.alloc (.cells #[.int .i64 t.proto, .int .i64 t.src, .int .i64 t.sport, .int .i64 t.dst, .int .i64 t.dport, .int .i64 t.kind] 52)) (.cells #[.int .i64 0, .int .i64 0, .int .i64 0, .int .i64 0, .int .i64 0, .int .i64 0, .int .i64 0] 64)
        simpa using this
      have hL0 := hidS (((Below.refl w.heap.size w).alloc (Nat.le_refl _) (.cells #[.int .i64 t.proto, .int .i64 t.src, .int .i64 t.sport, .int .i64 t.dst, .int .i64 t.dport, .int .i64 t.kind] 52)).alloc (by simp) (.cells #[.int .i64 0, .int .i64 0, .int .i64 0, .int .i64 0, .int .i64 0, .int .i64 0, .int .i64 0] 64))
      go_enter Try.func28, Try.ntmps28
      go_wp2_with fail
      refine (HU.out _ hL0.out).mono ?_
      rintro _ w1 ⟨rfl, hb1⟩
      have hGT1 := hidS (blk_later hGT0.out hb1)
      have hGO1 := hidS (blk_later hGO0.out hb1)
      have hL1 := hidS (hL0.out.trans (hb1.mono hL0.out.size))
      clear hb1 hL0 hGT0 hGO0
      rw [hu]
      have cT0 := blk_cell hGT1.out 0
      have cT1 := blk_cell hGT1.out 1
      have cT2 := blk_cell hGT1.out 2
      have cT3 := blk_cell hGT1.out 3
      have cT4 := blk_cell hGT1.out 4
      have cT5 := blk_cell hGT1.out 5
      simp at cT0 cT1 cT2 cT3 cT4 cT5
      go_wp2_with fail
      refine (HT.out _).mono ?_
      rintro _ w2 ⟨rfl, hb2⟩
      clear cT0 cT1 cT2 cT3 cT4 cT5
      have hGT2 := hidS (blk_later hGT1.out hb2)
      have hGO2 := hidS (blk_later hGO1.out hb2)
      have hL2 := hidS (hL1.out.trans (hb2.mono hL1.out.size))
      clear hb2 hL1 hGT1 hGO1
      rw [ht]
      have kO := blk_cell hGO2.out
      have fO := blk_free hGO2.out
      go_wp2_with fail
      refine bodyPost_ret (v := .agg #[.int .i64 zeroRl.kind, .int .i64 zeroRl.proto, .int .i64 zeroRl.net, .int .i64 zeroRl.bits, .int .i64 zeroRl.goal, .int .i64 zeroRl.low, .int .i64 zeroRl.high]) (by simp [results, Try.results28, go_sem, zeroRl, *]) rfl ⟨by rw [E.out], ?_⟩
      repeat (refine below_at ?_ (by omega))
      exact hL2.out
    have E : Hid (ruleAns l 1 t = foundR l 1 t) := if_pos (by unfold ruleB; rw [hu, hk, ht]; rfl)
    have HG := hidS (fun W (h : Below w.heap.size w W) => l08For_1 a cap l t W (HR.out.later h) hz hal ht)
    have hGT0 : Hid (((w.alloc (.cells #[.int .i64 t.proto, .int .i64 t.src, .int .i64 t.sport, .int .i64 t.dst, .int .i64 t.dport, .int .i64 t.kind] 52)).alloc (.cells #[.int .i64 0, .int .i64 0, .int .i64 0, .int .i64 0, .int .i64 0, .int .i64 0, .int .i64 0] 64)).heap[w.heap.size]? = some (.cells #[.int .i64 t.proto, .int .i64 t.src, .int .i64 t.sport, .int .i64 t.dst, .int .i64 t.dport, .int .i64 t.kind] 52)) := by
      show _ = _
      have := blk_alloc (heap_newG w (.cells #[.int .i64 t.proto, .int .i64 t.src, .int .i64 t.sport, .int .i64 t.dst, .int .i64 t.dport, .int .i64 t.kind] 52)) (.cells #[.int .i64 0, .int .i64 0, .int .i64 0, .int .i64 0, .int .i64 0, .int .i64 0, .int .i64 0] 64)
      simpa using this
    have hGO0 : Hid (((w.alloc (.cells #[.int .i64 t.proto, .int .i64 t.src, .int .i64 t.sport, .int .i64 t.dst, .int .i64 t.dport, .int .i64 t.kind] 52)).alloc (.cells #[.int .i64 0, .int .i64 0, .int .i64 0, .int .i64 0, .int .i64 0, .int .i64 0, .int .i64 0] 64)).heap[w.heap.size + 1]? = some (.cells #[.int .i64 0, .int .i64 0, .int .i64 0, .int .i64 0, .int .i64 0, .int .i64 0, .int .i64 0] 64)) := by
      show _ = _
      have := heap_newG (w.alloc (.cells #[.int .i64 t.proto, .int .i64 t.src, .int .i64 t.sport, .int .i64 t.dst, .int .i64 t.dport, .int .i64 t.kind] 52)) (.cells #[.int .i64 0, .int .i64 0, .int .i64 0, .int .i64 0, .int .i64 0, .int .i64 0, .int .i64 0] 64)
      simpa using this
    have hL0 := hidS (((Below.refl w.heap.size w).alloc (Nat.le_refl _) (.cells #[.int .i64 t.proto, .int .i64 t.src, .int .i64 t.sport, .int .i64 t.dst, .int .i64 t.dport, .int .i64 t.kind] 52)).alloc (by simp) (.cells #[.int .i64 0, .int .i64 0, .int .i64 0, .int .i64 0, .int .i64 0, .int .i64 0, .int .i64 0] 64))
    go_enter Try.func28, Try.ntmps28
    go_wp2_with fail
    refine (HU.out _ hL0.out).mono ?_
    rintro _ w1 ⟨rfl, hb1⟩
    have hGT1 := hidS (blk_later hGT0.out hb1)
    have hGO1 := hidS (blk_later hGO0.out hb1)
    have hL1 := hidS (hL0.out.trans (hb1.mono hL0.out.size))
    clear hb1 hL0 hGT0 hGO0
    rw [hu]
    have cT0 := blk_cell hGT1.out 0
    have cT1 := blk_cell hGT1.out 1
    have cT2 := blk_cell hGT1.out 2
    have cT3 := blk_cell hGT1.out 3
    have cT4 := blk_cell hGT1.out 4
    have cT5 := blk_cell hGT1.out 5
    simp at cT0 cT1 cT2 cT3 cT4 cT5
    go_wp2_with fail
    refine (HT.out _).mono ?_
    rintro _ w2 ⟨rfl, hb2⟩
    clear cT0 cT1 cT2 cT3 cT4 cT5
    have hGT2 := hidS (blk_later hGT1.out hb2)
    have hGO2 := hidS (blk_later hGO1.out hb2)
    have hL2 := hidS (hL1.out.trans (hb2.mono hL1.out.size))
    clear hb2 hL1 hGT1 hGO1
    rw [ht]
    have cT0 := blk_cell hGT2.out 0
    have cT1 := blk_cell hGT2.out 1
    have cT2 := blk_cell hGT2.out 2
    have cT3 := blk_cell hGT2.out 3
    have cT4 := blk_cell hGT2.out 4
    have cT5 := blk_cell hGT2.out 5
    simp at cT0 cT1 cT2 cT3 cT4 cT5
    go_wp2_with fail
    refine (HG.out _ hL2.out).mono ?_
    rintro _ w3 ⟨rfl, hb3⟩
    clear cT0 cT1 cT2 cT3 cT4 cT5
    have hGT3 := hidS (blk_later hGT2.out hb3)
    have hGO3 := hidS (blk_later hGO2.out hb3)
    have hL3 := hidS (hL2.out.trans (hb3.mono hL2.out.size))
    clear hb3 hL2 hGT2 hGO2
    generalize foundR l 1 t = q at *
    generalize hasR l 1 t = hq at *
    go_upto_region 4 with fail
    have hGF4 := hidS (heap_newG w3 (.cells #[.int .i64 q.kind, .int .i64 q.proto, .int .i64 q.net, .int .i64 q.bits, .int .i64 q.goal, .int .i64 q.low, .int .i64 q.high] 64))
    have nF := blk_lt hGO3.out
    have hGT4 := hidS (blk_alloc hGT3.out (.cells #[.int .i64 q.kind, .int .i64 q.proto, .int .i64 q.net, .int .i64 q.bits, .int .i64 q.goal, .int .i64 q.low, .int .i64 q.high] 64))
    have hGO4 := hidS (blk_alloc hGO3.out (.cells #[.int .i64 q.kind, .int .i64 q.proto, .int .i64 q.net, .int .i64 q.bits, .int .i64 q.goal, .int .i64 q.low, .int .i64 q.high] 64))
    have hL4 := hidS (hL3.out.alloc hL3.out.size (.cells #[.int .i64 q.kind, .int .i64 q.proto, .int .i64 q.net, .int .i64 q.bits, .int .i64 q.goal, .int .i64 q.low, .int .i64 q.high] 64))
    clear hL3 hGT3 hGO3
    generalize w3.alloc (.cells #[.int .i64 q.kind, .int .i64 q.proto, .int .i64 q.net, .int .i64 q.bits, .int .i64 q.goal, .int .i64 q.low, .int .i64 q.high] 64) = w4 at hGT4 hGO4 hGF4 hL4 ⊢
    have cF0 := blk_cell hGF4.out 0
    have cF1 := blk_cell hGF4.out 1
    have cF2 := blk_cell hGF4.out 2
    have cF3 := blk_cell hGF4.out 3
    have cF4 := blk_cell hGF4.out 4
    have cF5 := blk_cell hGF4.out 5
    have cF6 := blk_cell hGF4.out 6
    simp at cF0 cF1 cF2 cF3 cF4 cF5 cF6
    have kO := blk_cell hGO4.out
    have fO := blk_free hGO4.out
    go_wp2_with fail
    refine bodyPost_ret (v := .agg #[.int .i64 q.kind, .int .i64 q.proto, .int .i64 q.net, .int .i64 q.bits, .int .i64 q.goal, .int .i64 q.low, .int .i64 q.high]) (by simp [results, Try.results28, go_sem, *]) rfl ⟨by rw [E.out], ?_⟩
    repeat (refine below_at ?_ (by omega))
    exact hL4.out
  by_cases k2 : kind = 2
  · subst k2
    have hk : kindB 2 = true := rfl
    cases ht : rightT t
    · have E : Hid (ruleAns l 2 t = zeroRl) := if_neg (by unfold ruleB; rw [ht]; simp)
      have hGT0 : Hid (((w.alloc (.cells #[.int .i64 t.proto, .int .i64 t.src, .int .i64 t.sport, .int .i64 t.dst, .int .i64 t.dport, .int .i64 t.kind] 52)).alloc (.cells #[.int .i64 0, .int .i64 0, .int .i64 0, .int .i64 0, .int .i64 0, .int .i64 0, .int .i64 0] 64)).heap[w.heap.size]? = some (.cells #[.int .i64 t.proto, .int .i64 t.src, .int .i64 t.sport, .int .i64 t.dst, .int .i64 t.dport, .int .i64 t.kind] 52)) := by
        show _ = _
        have := blk_alloc (heap_newG w (.cells #[.int .i64 t.proto, .int .i64 t.src, .int .i64 t.sport, .int .i64 t.dst, .int .i64 t.dport, .int .i64 t.kind] 52)) (.cells #[.int .i64 0, .int .i64 0, .int .i64 0, .int .i64 0, .int .i64 0, .int .i64 0, .int .i64 0] 64)
        simpa using this
      have hGO0 : Hid (((w.alloc (.cells #[.int .i64 t.proto, .int .i64 t.src, .int .i64 t.sport, .int .i64 t.dst, .int .i64 t.dport, .int .i64 t.kind] 52)).alloc (.cells #[.int .i64 0, .int .i64 0, .int .i64 0, .int .i64 0, .int .i64 0, .int .i64 0, .int .i64 0] 64)).heap[w.heap.size + 1]? = some (.cells #[.int .i64 0, .int .i64 0, .int .i64 0, .int .i64 0, .int .i64 0, .int .i64 0, .int .i64 0] 64)) := by
        show _ = _
        have := heap_newG (w.alloc (.cells #[.int .i64 t.proto, .int .i64 t.src, .int .i64 t.sport, .int .i64 t.dst, .int .i64 t.dport, .int .i64 t.kind] 52)) (.cells #[.int .i64 0, .int .i64 0, .int .i64 0, .int .i64 0, .int .i64 0, .int .i64 0, .int .i64 0] 64)
        simpa using this
      have hL0 := hidS (((Below.refl w.heap.size w).alloc (Nat.le_refl _) (.cells #[.int .i64 t.proto, .int .i64 t.src, .int .i64 t.sport, .int .i64 t.dst, .int .i64 t.dport, .int .i64 t.kind] 52)).alloc (by simp) (.cells #[.int .i64 0, .int .i64 0, .int .i64 0, .int .i64 0, .int .i64 0, .int .i64 0, .int .i64 0] 64))
      go_enter Try.func28, Try.ntmps28
      go_wp2_with fail
      refine (HU.out _ hL0.out).mono ?_
      rintro _ w1 ⟨rfl, hb1⟩
      have hGT1 := hidS (blk_later hGT0.out hb1)
      have hGO1 := hidS (blk_later hGO0.out hb1)
      have hL1 := hidS (hL0.out.trans (hb1.mono hL0.out.size))
      clear hb1 hL0 hGT0 hGO0
      rw [hu]
      have cT0 := blk_cell hGT1.out 0
      have cT1 := blk_cell hGT1.out 1
      have cT2 := blk_cell hGT1.out 2
      have cT3 := blk_cell hGT1.out 3
      have cT4 := blk_cell hGT1.out 4
      have cT5 := blk_cell hGT1.out 5
      simp at cT0 cT1 cT2 cT3 cT4 cT5
      go_wp2_with fail
      refine (HT.out _).mono ?_
      rintro _ w2 ⟨rfl, hb2⟩
      clear cT0 cT1 cT2 cT3 cT4 cT5
      have hGT2 := hidS (blk_later hGT1.out hb2)
      have hGO2 := hidS (blk_later hGO1.out hb2)
      have hL2 := hidS (hL1.out.trans (hb2.mono hL1.out.size))
      clear hb2 hL1 hGT1 hGO1
      rw [ht]
      have kO := blk_cell hGO2.out
      have fO := blk_free hGO2.out
      go_wp2_with fail
      refine bodyPost_ret (v := .agg #[.int .i64 zeroRl.kind, .int .i64 zeroRl.proto, .int .i64 zeroRl.net, .int .i64 zeroRl.bits, .int .i64 zeroRl.goal, .int .i64 zeroRl.low, .int .i64 zeroRl.high]) (by simp [results, Try.results28, go_sem, zeroRl, *]) rfl ⟨by rw [E.out], ?_⟩
      repeat (refine below_at ?_ (by omega))
      exact hL2.out
    have E : Hid (ruleAns l 2 t = foundR l 2 t) := if_pos (by unfold ruleB; rw [hu, hk, ht]; rfl)
    have HG := hidS (fun W (h : Below w.heap.size w W) => l08For_2 a cap l t W (HR.out.later h) hz hal ht)
    have hGT0 : Hid (((w.alloc (.cells #[.int .i64 t.proto, .int .i64 t.src, .int .i64 t.sport, .int .i64 t.dst, .int .i64 t.dport, .int .i64 t.kind] 52)).alloc (.cells #[.int .i64 0, .int .i64 0, .int .i64 0, .int .i64 0, .int .i64 0, .int .i64 0, .int .i64 0] 64)).heap[w.heap.size]? = some (.cells #[.int .i64 t.proto, .int .i64 t.src, .int .i64 t.sport, .int .i64 t.dst, .int .i64 t.dport, .int .i64 t.kind] 52)) := by
      show _ = _
      have := blk_alloc (heap_newG w (.cells #[.int .i64 t.proto, .int .i64 t.src, .int .i64 t.sport, .int .i64 t.dst, .int .i64 t.dport, .int .i64 t.kind] 52)) (.cells #[.int .i64 0, .int .i64 0, .int .i64 0, .int .i64 0, .int .i64 0, .int .i64 0, .int .i64 0] 64)
      simpa using this
    have hGO0 : Hid (((w.alloc (.cells #[.int .i64 t.proto, .int .i64 t.src, .int .i64 t.sport, .int .i64 t.dst, .int .i64 t.dport, .int .i64 t.kind] 52)).alloc (.cells #[.int .i64 0, .int .i64 0, .int .i64 0, .int .i64 0, .int .i64 0, .int .i64 0, .int .i64 0] 64)).heap[w.heap.size + 1]? = some (.cells #[.int .i64 0, .int .i64 0, .int .i64 0, .int .i64 0, .int .i64 0, .int .i64 0, .int .i64 0] 64)) := by
      show _ = _
      have := heap_newG (w.alloc (.cells #[.int .i64 t.proto, .int .i64 t.src, .int .i64 t.sport, .int .i64 t.dst, .int .i64 t.dport, .int .i64 t.kind] 52)) (.cells #[.int .i64 0, .int .i64 0, .int .i64 0, .int .i64 0, .int .i64 0, .int .i64 0, .int .i64 0] 64)
      simpa using this
    have hL0 := hidS (((Below.refl w.heap.size w).alloc (Nat.le_refl _) (.cells #[.int .i64 t.proto, .int .i64 t.src, .int .i64 t.sport, .int .i64 t.dst, .int .i64 t.dport, .int .i64 t.kind] 52)).alloc (by simp) (.cells #[.int .i64 0, .int .i64 0, .int .i64 0, .int .i64 0, .int .i64 0, .int .i64 0, .int .i64 0] 64))
    go_enter Try.func28, Try.ntmps28
    go_wp2_with fail
    refine (HU.out _ hL0.out).mono ?_
    rintro _ w1 ⟨rfl, hb1⟩
    have hGT1 := hidS (blk_later hGT0.out hb1)
    have hGO1 := hidS (blk_later hGO0.out hb1)
    have hL1 := hidS (hL0.out.trans (hb1.mono hL0.out.size))
    clear hb1 hL0 hGT0 hGO0
    rw [hu]
    have cT0 := blk_cell hGT1.out 0
    have cT1 := blk_cell hGT1.out 1
    have cT2 := blk_cell hGT1.out 2
    have cT3 := blk_cell hGT1.out 3
    have cT4 := blk_cell hGT1.out 4
    have cT5 := blk_cell hGT1.out 5
    simp at cT0 cT1 cT2 cT3 cT4 cT5
    go_wp2_with fail
    refine (HT.out _).mono ?_
    rintro _ w2 ⟨rfl, hb2⟩
    clear cT0 cT1 cT2 cT3 cT4 cT5
    have hGT2 := hidS (blk_later hGT1.out hb2)
    have hGO2 := hidS (blk_later hGO1.out hb2)
    have hL2 := hidS (hL1.out.trans (hb2.mono hL1.out.size))
    clear hb2 hL1 hGT1 hGO1
    rw [ht]
    have cT0 := blk_cell hGT2.out 0
    have cT1 := blk_cell hGT2.out 1
    have cT2 := blk_cell hGT2.out 2
    have cT3 := blk_cell hGT2.out 3
    have cT4 := blk_cell hGT2.out 4
    have cT5 := blk_cell hGT2.out 5
    simp at cT0 cT1 cT2 cT3 cT4 cT5
    go_wp2_with fail
    refine (HG.out _ hL2.out).mono ?_
    rintro _ w3 ⟨rfl, hb3⟩
    clear cT0 cT1 cT2 cT3 cT4 cT5
    have hGT3 := hidS (blk_later hGT2.out hb3)
    have hGO3 := hidS (blk_later hGO2.out hb3)
    have hL3 := hidS (hL2.out.trans (hb3.mono hL2.out.size))
    clear hb3 hL2 hGT2 hGO2
    generalize foundR l 2 t = q at *
    generalize hasR l 2 t = hq at *
    go_upto_region 4 with fail
    have hGF4 := hidS (heap_newG w3 (.cells #[.int .i64 q.kind, .int .i64 q.proto, .int .i64 q.net, .int .i64 q.bits, .int .i64 q.goal, .int .i64 q.low, .int .i64 q.high] 64))
    have nF := blk_lt hGO3.out
    have hGT4 := hidS (blk_alloc hGT3.out (.cells #[.int .i64 q.kind, .int .i64 q.proto, .int .i64 q.net, .int .i64 q.bits, .int .i64 q.goal, .int .i64 q.low, .int .i64 q.high] 64))
    have hGO4 := hidS (blk_alloc hGO3.out (.cells #[.int .i64 q.kind, .int .i64 q.proto, .int .i64 q.net, .int .i64 q.bits, .int .i64 q.goal, .int .i64 q.low, .int .i64 q.high] 64))
    have hL4 := hidS (hL3.out.alloc hL3.out.size (.cells #[.int .i64 q.kind, .int .i64 q.proto, .int .i64 q.net, .int .i64 q.bits, .int .i64 q.goal, .int .i64 q.low, .int .i64 q.high] 64))
    clear hL3 hGT3 hGO3
    generalize w3.alloc (.cells #[.int .i64 q.kind, .int .i64 q.proto, .int .i64 q.net, .int .i64 q.bits, .int .i64 q.goal, .int .i64 q.low, .int .i64 q.high] 64) = w4 at hGT4 hGO4 hGF4 hL4 ⊢
    have cF0 := blk_cell hGF4.out 0
    have cF1 := blk_cell hGF4.out 1
    have cF2 := blk_cell hGF4.out 2
    have cF3 := blk_cell hGF4.out 3
    have cF4 := blk_cell hGF4.out 4
    have cF5 := blk_cell hGF4.out 5
    have cF6 := blk_cell hGF4.out 6
    simp at cF0 cF1 cF2 cF3 cF4 cF5 cF6
    have kO := blk_cell hGO4.out
    have fO := blk_free hGO4.out
    go_wp2_with fail
    refine bodyPost_ret (v := .agg #[.int .i64 q.kind, .int .i64 q.proto, .int .i64 q.net, .int .i64 q.bits, .int .i64 q.goal, .int .i64 q.low, .int .i64 q.high]) (by simp [results, Try.results28, go_sem, *]) rfl ⟨by rw [E.out], ?_⟩
    repeat (refine below_at ?_ (by omega))
    exact hL4.out
  have hk : kindB kind = false := by unfold kindB; simp [k1, k2]
  have n1 : (kind != 1) = true := by simp [k1]
  have n2 : (kind != 2) = true := by simp [k2]
  have E : Hid (ruleAns l kind t = zeroRl) := if_neg (by unfold ruleB; rw [hk]; simp)
  have hGT0 : Hid (((w.alloc (.cells #[.int .i64 t.proto, .int .i64 t.src, .int .i64 t.sport, .int .i64 t.dst, .int .i64 t.dport, .int .i64 t.kind] 52)).alloc (.cells #[.int .i64 0, .int .i64 0, .int .i64 0, .int .i64 0, .int .i64 0, .int .i64 0, .int .i64 0] 64)).heap[w.heap.size]? = some (.cells #[.int .i64 t.proto, .int .i64 t.src, .int .i64 t.sport, .int .i64 t.dst, .int .i64 t.dport, .int .i64 t.kind] 52)) := by
    show _ = _
    have := blk_alloc (heap_newG w (.cells #[.int .i64 t.proto, .int .i64 t.src, .int .i64 t.sport, .int .i64 t.dst, .int .i64 t.dport, .int .i64 t.kind] 52)) (.cells #[.int .i64 0, .int .i64 0, .int .i64 0, .int .i64 0, .int .i64 0, .int .i64 0, .int .i64 0] 64)
    simpa using this
  have hGO0 : Hid (((w.alloc (.cells #[.int .i64 t.proto, .int .i64 t.src, .int .i64 t.sport, .int .i64 t.dst, .int .i64 t.dport, .int .i64 t.kind] 52)).alloc (.cells #[.int .i64 0, .int .i64 0, .int .i64 0, .int .i64 0, .int .i64 0, .int .i64 0, .int .i64 0] 64)).heap[w.heap.size + 1]? = some (.cells #[.int .i64 0, .int .i64 0, .int .i64 0, .int .i64 0, .int .i64 0, .int .i64 0, .int .i64 0] 64)) := by
    show _ = _
    have := heap_newG (w.alloc (.cells #[.int .i64 t.proto, .int .i64 t.src, .int .i64 t.sport, .int .i64 t.dst, .int .i64 t.dport, .int .i64 t.kind] 52)) (.cells #[.int .i64 0, .int .i64 0, .int .i64 0, .int .i64 0, .int .i64 0, .int .i64 0, .int .i64 0] 64)
    simpa using this
  have hL0 := hidS (((Below.refl w.heap.size w).alloc (Nat.le_refl _) (.cells #[.int .i64 t.proto, .int .i64 t.src, .int .i64 t.sport, .int .i64 t.dst, .int .i64 t.dport, .int .i64 t.kind] 52)).alloc (by simp) (.cells #[.int .i64 0, .int .i64 0, .int .i64 0, .int .i64 0, .int .i64 0, .int .i64 0, .int .i64 0] 64))
  go_enter Try.func28, Try.ntmps28
  go_wp2_with fail
  refine (HU.out _ hL0.out).mono ?_
  rintro _ w1 ⟨rfl, hb1⟩
  have hGT1 := hidS (blk_later hGT0.out hb1)
  have hGO1 := hidS (blk_later hGO0.out hb1)
  have hL1 := hidS (hL0.out.trans (hb1.mono hL0.out.size))
  clear hb1 hL0 hGT0 hGO0
  rw [hu]
  have kO := blk_cell hGO1.out
  have fO := blk_free hGO1.out
  go_wp2_with fail
  refine bodyPost_ret (v := .agg #[.int .i64 zeroRl.kind, .int .i64 zeroRl.proto, .int .i64 zeroRl.net, .int .i64 zeroRl.bits, .int .i64 zeroRl.goal, .int .i64 zeroRl.low, .int .i64 zeroRl.high]) (by simp [results, Try.results28, go_sem, zeroRl, *]) rfl ⟨by rw [E.out], ?_⟩
  repeat (refine below_at ?_ (by omega))
  exact hL1.out
end Go.Proofs.Ytilajoafppplcaa
