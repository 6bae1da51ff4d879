/- Proved here: spec.l08Goes answers as whom a right tuple goes on by right rules; all old memory stays (conditions: rows that can be read, at most 60 used). -/
import Derived.Test.YtilajoafppplcaaForS
import Derived.Test.YtilajoafppplcaaUsedS
import Derived.Test.YtilajoafppplcaaAll17
import Derived.Deep.Cut
import Derived.Deep.CutBlock
import Derived.Deep.CutRange
import Derived.Deep.DeepCutAuto
import Derived.BigRegion
namespace Go.Proofs.Ytilajoafppplcaa
open Go.ChangeShapes Go.WideShapes Go.ChangeAt Go.RowKit
set_option linter.unusedVariables false
set_option linter.unusedSimpArgs false
set_option maxRecDepth 100000

theorem l01Min_any (a b : Int) (w : World) :
    Calls Try.prog 115 #[.int .i64 a, .int .i64 b] w fun e w' => e = .returned (.int .i64 (if a < b then a else b)) ∧ w' = w := by
  by_cases h : a < b
  · rw [if_pos h]
    go_enter Try.func115, Try.ntmps115
    go_wp2
    go_ret
    exact ⟨rfl, rfl⟩
  · rw [if_neg h]
    go_enter Try.func115, Try.ntmps115
    go_wp2
    go_ret
    exact ⟨rfl, rfl⟩
set_option maxHeartbeats 8000000 in
theorem l08Goes_any (a b : Option Addr) (cap cap2 : Nat) (l : List Rl) (used : List Tp) (t : Tp) (start : Int) (w : World) (hR : RowZ a (flatRule l) w) (hU : RowZ b (flatTuple used) w) (hz : l.length ≤ 1048576) (hu : used.length ≤ 60) (hr : allR l = true) (ht : rightT t = true) (hs : 0 ≤ start) (hs2 : start ≤ 1000000) :
    Calls Try.prog 79 #[.slice a l.length cap, .agg #[.int .i64 t.proto, .int .i64 t.src, .int .i64 t.sport, .int .i64 t.dst, .int .i64 t.dport, .int .i64 t.kind], .int .i64 start, .slice b used.length cap2] w fun e w' => e = .returned (.agg #[.int .i64 (tupF (goesF l t start used)).proto, .int .i64 (tupF (goesF l t start used)).src, .int .i64 (tupF (goesF l t start used)).sport, .int .i64 (tupF (goesF l t start used)).dst, .int .i64 (tupF (goesF l t start used)).dport, .int .i64 (tupF (goesF l t start used)).kind, .int .i64 (codeF (goesF l t start used))]) ∧ Below w.heap.size w w' := by
  have HR := hidS hR
  have HU := hidS hU
  have HGR := hidS (goal_right hr ht)
  have HF2 := hidS (fun W (h : Below w.heap.size w W) => l08For_2 a cap l t W (HR.out.later h) hz hr ht)
  have HF1 := hidS (fun W (h : Below w.heap.size w W) => l08For_1 a cap l (goalT l t) W (HR.out.later h) hz hr HGR.out)
  have HL8 := hidS (fun u W (h : Below w.heap.size w W) (q : rightT u = true) => l08Used_any b cap2 used u W (HU.out.later h) (by omega) q)
  have HG0 : Hid (goalT l t = if hasR l 2 t = true then ⟨t.proto, t.src, t.sport, (foundR l 2 t).goal, if 0 < (foundR l 2 t).low ∧ t.proto ≠ 1 then (foundR l 2 t).low else t.dport, t.kind⟩ else t) := rfl
  have HGF : Hid (goesF l t start used = if hasR l 1 (goalT l t) = true then freeF used (nameK (foundR l 1 (goalT l t)) (goalT l t) start) 0 (manyR (foundR l 1 (goalT l t))).toNat else if usedB used (goalT l t) = true then none else some (goalT l t)) := rfl
  have HFR := hidS (fun h => found_right (k := 1) (t := goalT l t) hr h)
  clear hR hU hr ht
  obtain ⟨g, hg⟩ : ∃ x, goalT l t = x := ⟨_, rfl⟩
  rw [hg] at HGR HF1 HG0 HGF HFR
  clear hg
  obtain ⟨d, hd⟩ : ∃ x, foundR l 2 t = x := ⟨_, rfl⟩
  obtain ⟨h2, hh2⟩ : ∃ x, hasR l 2 t = x := ⟨_, rfl⟩
  rw [hd, hh2] at HF2 HG0
  clear hd hh2
  have hGT0 : Hid (((w.alloc (.cells #[.int .i64 t.proto, .int .i64 t.src, .int .i64 t.sport, .int .i64 t.dst, .int .i64 t.dport, .int .i64 t.kind] 52)).alloc (.cells #[.int .i64 0, .int .i64 0, .int .i64 0, .int .i64 0, .int .i64 0, .int .i64 0, .int .i64 0] 57)).heap[w.heap.size]? = some (.cells #[.int .i64 t.proto, .int .i64 t.src, .int .i64 t.sport, .int .i64 t.dst, .int .i64 t.dport, .int .i64 t.kind] 52)) := by
    show _ = _
    have := blk_alloc (heap_newG w (.cells #[.int .i64 t.proto, .int .i64 t.src, .int .i64 t.sport, .int .i64 t.dst, .int .i64 t.dport, .int .i64 t.kind] 52)) (.cells #[.int .i64 0, .int .i64 0, .int .i64 0, .int .i64 0, .int .i64 0, .int .i64 0, .int .i64 0] 57)
    simpa using this
  have hGO0 : Hid (((w.alloc (.cells #[.int .i64 t.proto, .int .i64 t.src, .int .i64 t.sport, .int .i64 t.dst, .int .i64 t.dport, .int .i64 t.kind] 52)).alloc (.cells #[.int .i64 0, .int .i64 0, .int .i64 0, .int .i64 0, .int .i64 0, .int .i64 0, .int .i64 0] 57)).heap[w.heap.size + 1]? = some (.cells #[.int .i64 0, .int .i64 0, .int .i64 0, .int .i64 0, .int .i64 0, .int .i64 0, .int .i64 0] 57)) := by
    show _ = _
    have := heap_newG (w.alloc (.cells #[.int .i64 t.proto, .int .i64 t.src, .int .i64 t.sport, .int .i64 t.dst, .int .i64 t.dport, .int .i64 t.kind] 52)) (.cells #[.int .i64 0, .int .i64 0, .int .i64 0, .int .i64 0, .int .i64 0, .int .i64 0, .int .i64 0] 57)
    simpa using this
  have hL0 := hidS (((Below.refl w.heap.size w).alloc (Nat.le_refl _) (.cells #[.int .i64 t.proto, .int .i64 t.src, .int .i64 t.sport, .int .i64 t.dst, .int .i64 t.dport, .int .i64 t.kind] 52)).alloc (by simp) (.cells #[.int .i64 0, .int .i64 0, .int .i64 0, .int .i64 0, .int .i64 0, .int .i64 0, .int .i64 0] 57))
  go_enter Try.func79, Try.ntmps79
  have cT0 := blk_cell hGT0.out 0
  have cT1 := blk_cell hGT0.out 1
  have cT2 := blk_cell hGT0.out 2
  have cT3 := blk_cell hGT0.out 3
  have cT4 := blk_cell hGT0.out 4
  have cT5 := blk_cell hGT0.out 5
  simp at cT0 cT1 cT2 cT3 cT4 cT5
  go_wp2_with fail
  refine (HF2.out _ hL0.out).mono ?_
  rintro _ w1 ⟨rfl, hb1⟩
  have hGT1 := hidS (blk_later hGT0.out hb1)
  have hGO1 := hidS (blk_later hGO0.out hb1)
  have hL1 := hidS (hL0.out.trans (hb1.mono hL0.out.size))
  clear hb1 hL0 hGT0 hGO0 HF2 cT0 cT1 cT2 cT3 cT4 cT5
  go_upto_region 2 with fail
  have hGD2 := hidS (heap_newG w1 (.cells #[.int .i64 d.kind, .int .i64 d.proto, .int .i64 d.net, .int .i64 d.bits, .int .i64 d.goal, .int .i64 d.low, .int .i64 d.high] 64))
  have nD := blk_lt hGO1.out
  have hGT2 := hidS (blk_alloc hGT1.out (.cells #[.int .i64 d.kind, .int .i64 d.proto, .int .i64 d.net, .int .i64 d.bits, .int .i64 d.goal, .int .i64 d.low, .int .i64 d.high] 64))
  have hGO2 := hidS (blk_alloc hGO1.out (.cells #[.int .i64 d.kind, .int .i64 d.proto, .int .i64 d.net, .int .i64 d.bits, .int .i64 d.goal, .int .i64 d.low, .int .i64 d.high] 64))
  have hL2 := hidS (hL1.out.alloc hL1.out.size (.cells #[.int .i64 d.kind, .int .i64 d.proto, .int .i64 d.net, .int .i64 d.bits, .int .i64 d.goal, .int .i64 d.low, .int .i64 d.high] 64))
  clear hL1 hGT1 hGO1
  generalize w1.alloc (.cells #[.int .i64 d.kind, .int .i64 d.proto, .int .i64 d.net, .int .i64 d.bits, .int .i64 d.goal, .int .i64 d.low, .int .i64 d.high] 64) = w2 at hGT2 hGO2 hGD2 hL2 ⊢
  skip
  go_upto_if 21 with fail
  go_cut [] (fun wx => Hid (wx.heap[w.heap.size]? = some (.cells #[.int .i64 g.proto, .int .i64 g.src, .int .i64 g.sport, .int .i64 g.dst, .int .i64 g.dport, .int .i64 g.kind] 52)) ∧ Hid (wx.heap[w.heap.size + 1]? = some (.cells #[.int .i64 0, .int .i64 0, .int .i64 0, .int .i64 0, .int .i64 0, .int .i64 0, .int .i64 0] 57)) ∧ Below w.heap.size w wx)
  case first =>
    clear HF1 HL8 HGF HFR HGR
    cases h2
    · have E : Hid (g = t) := HG0.out.trans (by simp)
      clear HG0
      go_wp2_with fail
      go_meet
      exact ⟨by rw [E.out]; exact hGT2, hGO2, hL2.out⟩
    have cD0 := blk_cell hGD2.out 0
    have cD1 := blk_cell hGD2.out 1
    have cD2 := blk_cell hGD2.out 2
    have cD3 := blk_cell hGD2.out 3
    have cD4 := blk_cell hGD2.out 4
    have cD5 := blk_cell hGD2.out 5
    have cD6 := blk_cell hGD2.out 6
    simp at cD0 cD1 cD2 cD3 cD4 cD5 cD6
    have cT0 := blk_cell hGT2.out 0
    have cT1 := blk_cell hGT2.out 1
    have cT2 := blk_cell hGT2.out 2
    have cT3 := blk_cell hGT2.out 3
    have cT4 := blk_cell hGT2.out 4
    have cT5 := blk_cell hGT2.out 5
    simp at cT0 cT1 cT2 cT3 cT4 cT5
    have fT := blk_free hGT2.out
    by_cases q1 : 0 < d.low
    · by_cases q2 : t.proto = 1
      · have E : Hid (g = ⟨t.proto, t.src, t.sport, d.goal, t.dport, t.kind⟩) := HG0.out.trans (by simp [q1, q2])
        have q1' : d.low > 0 := q1
        have b2 : (t.proto != 1) = false := by simp [q2]
        clear q2
        clear HG0
        go_wp2_with fail
        go_meet
        refine ⟨?_, hidS (blk_other (B := w.heap.size) hGO2.out (by omega) 3 (.int .i64 d.goal)), (below_at (k := 3) (b := w.heap.size) (v := .int .i64 d.goal) hL2.out (Nat.le_refl _))⟩
        rw [E.out]
        have := (blk_set hGT2.out 3 (.int .i64 d.goal))
        exact this
      · have E : Hid (g = ⟨t.proto, t.src, t.sport, d.goal, d.low, t.kind⟩) := HG0.out.trans (by simp [q1, q2])
        have q1' : d.low > 0 := q1
        have b2 : (t.proto != 1) = true := by simp [q2]
        clear q2
        clear HG0
        go_wp2_with fail
        go_meet
        refine ⟨?_, hidS (blk_other (B := w.heap.size) (blk_other (B := w.heap.size) hGO2.out (by omega) 3 (.int .i64 d.goal)) (by omega) 4 (.int .i64 d.low)), (below_at (k := 4) (b := w.heap.size) (v := .int .i64 d.low) (below_at (k := 3) (b := w.heap.size) (v := .int .i64 d.goal) hL2.out (Nat.le_refl _)) (Nat.le_refl _))⟩
        rw [E.out]
        have := (blk_set (blk_set hGT2.out 3 (.int .i64 d.goal)) 4 (.int .i64 d.low))
        exact this
    · have E : Hid (g = ⟨t.proto, t.src, t.sport, d.goal, t.dport, t.kind⟩) := HG0.out.trans (by simp [q1])
      have q1' : ¬ d.low > 0 := q1
      clear HG0
      go_wp2_with fail
      go_meet
      refine ⟨?_, hidS (blk_other (B := w.heap.size) hGO2.out (by omega) 3 (.int .i64 d.goal)), (below_at (k := 3) (b := w.heap.size) (v := .int .i64 d.goal) hL2.out (Nat.le_refl _))⟩
      rw [E.out]
      have := (blk_set hGT2.out 3 (.int .i64 d.goal))
      exact this
  case rest =>
    obtain ⟨hGT5, hGO5, hb5⟩ := hcut
    obtain ⟨w5, hww⟩ : ∃ x, x = wc := ⟨_, rfl⟩
    subst hww
    have hL5 := hidS hb5
    clear hb5 hL2 hGT2 hGO2 hGD2 HG0
    have cT0 := blk_cell hGT5.out 0
    have cT1 := blk_cell hGT5.out 1
    have cT2 := blk_cell hGT5.out 2
    have cT3 := blk_cell hGT5.out 3
    have cT4 := blk_cell hGT5.out 4
    have cT5 := blk_cell hGT5.out 5
    simp at cT0 cT1 cT2 cT3 cT4 cT5
    go_wp2_with fail
    refine (HF1.out _ hL5.out).mono ?_
    rintro _ w6 ⟨rfl, hb6⟩
    have hGT6 := hidS (blk_later hGT5.out hb6)
    have hGO6 := hidS (blk_later hGO5.out hb6)
    have hL6 := hidS (hL5.out.trans (hb6.mono hL5.out.size))
    clear hb6 hL5 hGT5 hGO5 HF1 cT0 cT1 cT2 cT3 cT4 cT5
    obtain ⟨s, hs'⟩ : ∃ x, foundR l 1 g = x := ⟨_, rfl⟩
    obtain ⟨h1, hh1⟩ : ∃ x, hasR l 1 g = x := ⟨_, rfl⟩
    rw [hs', hh1] at HGF HFR
    rw [hs', hh1]
    clear hs' hh1
    go_upto_region 7 with fail
    have hGS7 := hidS (heap_newG w6 (.cells #[.int .i64 s.kind, .int .i64 s.proto, .int .i64 s.net, .int .i64 s.bits, .int .i64 s.goal, .int .i64 s.low, .int .i64 s.high] 64))
    have nS := blk_lt hGO6.out
    have hGT7 := hidS (blk_alloc hGT6.out (.cells #[.int .i64 s.kind, .int .i64 s.proto, .int .i64 s.net, .int .i64 s.bits, .int .i64 s.goal, .int .i64 s.low, .int .i64 s.high] 64))
    have hGO7 := hidS (blk_alloc hGO6.out (.cells #[.int .i64 s.kind, .int .i64 s.proto, .int .i64 s.net, .int .i64 s.bits, .int .i64 s.goal, .int .i64 s.low, .int .i64 s.high] 64))
    have hL7 := hidS (hL6.out.alloc hL6.out.size (.cells #[.int .i64 s.kind, .int .i64 s.proto, .int .i64 s.net, .int .i64 s.bits, .int .i64 s.goal, .int .i64 s.low, .int .i64 s.high] 64))
    clear hL6 hGT6 hGO6
    generalize w6.alloc (.cells #[.int .i64 s.kind, .int .i64 s.proto, .int .i64 s.net, .int .i64 s.bits, .int .i64 s.goal, .int .i64 s.low, .int .i64 s.high] 64) = w7 at hGT7 hGO7 hGS7 hL7 ⊢
    cases h1
    · have EF0 := hidS (HGF.out.trans (if_neg (by simp)))
      clear HGF HFR
      have HLU := hidS (fun W h => HL8.out g W h HGR.out)
      have cT0 := blk_cell hGT7.out 0
      have cT1 := blk_cell hGT7.out 1
      have cT2 := blk_cell hGT7.out 2
      have cT3 := blk_cell hGT7.out 3
      have cT4 := blk_cell hGT7.out 4
      have cT5 := blk_cell hGT7.out 5
      simp at cT0 cT1 cT2 cT3 cT4 cT5
      go_wp2_with fail
      refine (HLU.out _ hL7.out).mono ?_
      rintro _ w8 ⟨rfl, hb8⟩
      clear cT0 cT1 cT2 cT3 cT4 cT5
      have hGT8 := hidS (blk_later hGT7.out hb8)
      have hGO8 := hidS (blk_later hGO7.out hb8)
      have hGS8 := hidS (blk_later hGS7.out hb8)
      have hL8 := hidS (hL7.out.trans (hb8.mono hL7.out.size))
      clear hb8 hL7 hGT7 hGO7 hGS7 HL8 HLU
      cases hq : usedB used g
      · have EF := hidS (EF0.out.trans (if_neg (by rw [hq]; simp)))
        clear EF0
        have cT0 := blk_cell hGT8.out 0
        have cT1 := blk_cell hGT8.out 1
        have cT2 := blk_cell hGT8.out 2
        have cT3 := blk_cell hGT8.out 3
        have cT4 := blk_cell hGT8.out 4
        have cT5 := blk_cell hGT8.out 5
        simp at cT0 cT1 cT2 cT3 cT4 cT5
        have kO := blk_cell hGO8.out
        have fO := blk_free hGO8.out
        go_wp2_with fail
        refine bodyPost_ret (v := .agg #[.int .i64 g.proto, .int .i64 g.src, .int .i64 g.sport, .int .i64 g.dst, .int .i64 g.dport, .int .i64 g.kind, .int .i64 0]) (by simp [results, Try.results79, go_sem, *]) rfl ⟨by rw [EF.out]; rfl, ?_⟩
        repeat (refine below_at ?_ (by omega))
        exact hL8.out
      · have EF := hidS (EF0.out.trans (if_pos hq))
        clear EF0
        have kO := blk_cell hGO8.out
        have fO := blk_free hGO8.out
        go_wp2_with fail
        refine bodyPost_ret (v := .agg #[.int .i64 0, .int .i64 0, .int .i64 0, .int .i64 0, .int .i64 0, .int .i64 0, .int .i64 9]) (by simp [results, Try.results79, go_sem, *]) rfl ⟨by rw [EF.out]; rfl, ?_⟩
        repeat (refine below_at ?_ (by omega))
        exact hL8.out
    have EF0 := hidS (HGF.out.trans (if_pos rfl))
    clear HGF
    have HSR := hidS (HFR.out rfl)
    clear HFR
    have hmb := many_bd HSR.out
    obtain ⟨_, _, _, _, w1', w2', w3', _⟩ := right_parts HSR.out
    have w4 := word_iff.1 w1'
    have w5' := word_iff.1 w2'
    clear w1' w2'
    obtain ⟨N, hN⟩ : ∃ x, x = min (manyR s).toNat (2 * used.length + 1) := ⟨_, rfl⟩
    have HFS := hidS (free_same (used := used) (r := s) (t := g) (start := start) (n := N) (m := (manyR s).toNat) hs (by omega) hN)
    have hNb : N ≤ 121 := by omega
    have HMN : Hid ((if s.high - s.low + 1 < 2 * (used.length : Int) + 1 then s.high - s.low + 1 else 2 * (used.length : Int) + 1) = (N : Int)) := by unfold Hid; unfold manyR at hN hmb; split <;> omega
    have HLM := hidS (fun W => l01Min_any (s.high - s.low + 1) (2 * (used.length : Int) + 1) W)
    rw [HMN.out] at HLM
    clear hN HMN
    have hul : (used.length : Int) ≤ 60 := by omega
    have hmn : 1 ≤ s.high - s.low + 1 ∧ s.high - s.low + 1 ≤ 65536 := hmb
    clear hmb
    have cS0 := blk_cell hGS7.out 0
    have cS1 := blk_cell hGS7.out 1
    have cS2 := blk_cell hGS7.out 2
    have cS3 := blk_cell hGS7.out 3
    have cS4 := blk_cell hGS7.out 4
    have cS5 := blk_cell hGS7.out 5
    have cS6 := blk_cell hGS7.out 6
    simp at cS0 cS1 cS2 cS3 cS4 cS5 cS6
    have cT0 := blk_cell hGT7.out 0
    have cT1 := blk_cell hGT7.out 1
    have cT2 := blk_cell hGT7.out 2
    have cT3 := blk_cell hGT7.out 3
    have cT4 := blk_cell hGT7.out 4
    have cT5 := blk_cell hGT7.out 5
    simp at cT0 cT1 cT2 cT3 cT4 cT5
    have fT := blk_free hGT7.out
    go_upto_region 12 with fail
    have hGT8 : Hid ((w7.setCell ⟨w.heap.size, 1, none⟩ (.int .i64 s.goal)).heap[w.heap.size]? = some (.cells #[.int .i64 g.proto, .int .i64 s.goal, .int .i64 g.sport, .int .i64 g.dst, .int .i64 g.dport, .int .i64 g.kind] 52)) := by
      have := (blk_set hGT7.out 1 (.int .i64 s.goal))
      exact this
    have hGO8 := hidS (blk_other (B := w.heap.size) hGO7.out (by omega) 1 (.int .i64 s.goal))
    have hGS8 := hidS (blk_other (B := w.heap.size) hGS7.out (by omega) 1 (.int .i64 s.goal))
    have hL8 := hidS (below_at (k := 1) (b := w.heap.size) (v := .int .i64 s.goal) hL7.out (by omega))
    clear cS0 cS1 cS2 cS3 cS4 cS5 cS6 cT0 cT1 cT2 cT3 cT4 cT5
    clear hL7 hGT7 hGO7 hGS7
    generalize (w7.setCell ⟨w.heap.size, 1, none⟩ (.int .i64 s.goal)) = w8 at hGT8 hGO8 hGS8 hL8 ⊢
    have cS0 := blk_cell hGS8.out 0
    have cS1 := blk_cell hGS8.out 1
    have cS2 := blk_cell hGS8.out 2
    have cS3 := blk_cell hGS8.out 3
    have cS4 := blk_cell hGS8.out 4
    have cS5 := blk_cell hGS8.out 5
    have cS6 := blk_cell hGS8.out 6
    simp at cS0 cS1 cS2 cS3 cS4 cS5 cS6
    have HM : Hid (manyR s = s.high - s.low + 1) := rfl
    go_upto_region 13 with fail
    generalize s.high - s.low + 1 = mn at hmn HLM HM ⊢
    clear cS0 cS1 cS2 cS3 cS4 cS5 cS6
    go_wp2_with fail
    refine (HLM.out _).mono ?_
    rintro _ v9 ⟨rfl, hv9⟩
    rw [hv9]
    clear hv9 v9
    clear HLM
    go_wp2_with fail
    go_loopw [14] (fun v wr => ∃ (k : Nat) (sp dp : Int), v = .int .i64 (k : Int) ∧ k ≤ N ∧ Hid (freeF used (nameK s g start) 0 N = freeF used (nameK s g start) k (N - k)) ∧ Hid (g.proto ≠ 1 → dp = g.dport) ∧ Hid (wr.heap[w.heap.size]? = some (.cells #[.int .i64 g.proto, .int .i64 s.goal, .int .i64 sp, .int .i64 g.dst, .int .i64 dp, .int .i64 g.kind] 52)) ∧ Hid (wr.heap[w.heap.size + 1]? = some (.cells #[.int .i64 0, .int .i64 0, .int .i64 0, .int .i64 0, .int .i64 0, .int .i64 0, .int .i64 0] 57)) ∧ Hid (wr.heap[w6.heap.size]? = some (.cells #[.int .i64 s.kind, .int .i64 s.proto, .int .i64 s.net, .int .i64 s.bits, .int .i64 s.goal, .int .i64 s.low, .int .i64 s.high] 64)) ∧ Below w.heap.size w wr) (fun v _ => (N - (intOf v).toNat))
    case atStart => exact ⟨0, g.sport, g.dport, rfl, Nat.zero_le _, rfl, (fun _ => rfl), hGT8, hGO8, hGS8, hL8.out⟩
    case round =>
      clear hGT8 hGO8 hGS8 hL8
      obtain ⟨k, sp, dp, rfl, hk, hF, hD, hGT9, hGO9, hGS9, hb9⟩ := hrel
      obtain ⟨w9, hww⟩ : ∃ x, x = wr := ⟨_, rfl⟩
      subst hww
      have hL9 := hidS hb9
      clear hb9
      by_cases hlt : k < N
      · skip
        have hltI : (k : Int) < (N : Int) := by omega
        have k1 : 0 ≤ start + (k : Int) := by omega
        have k2 : (k : Int) ≤ 121 := by omega
        have k3 : mn ≠ 0 := by omega
        have k4 := Int.emod_nonneg (start + (k : Int)) k3
        have k5 := Int.emod_lt_of_pos (start + (k : Int)) (show 0 < mn by omega)
        have k6 : (start + (k : Int)) % mn < 65536 := by omega
        have HPN : Hid (portN s start (k : Int) = s.low + (start + (k : Int)) % mn) := by unfold Hid portN; rw [HM.out]
        have cS0 := blk_cell hGS9.out 0
        have cS1 := blk_cell hGS9.out 1
        have cS2 := blk_cell hGS9.out 2
        have cS3 := blk_cell hGS9.out 3
        have cS4 := blk_cell hGS9.out 4
        have cS5 := blk_cell hGS9.out 5
        have cS6 := blk_cell hGS9.out 6
        simp at cS0 cS1 cS2 cS3 cS4 cS5 cS6
        have cT0 := blk_cell hGT9.out 0
        have cT1 := blk_cell hGT9.out 1
        have cT2 := blk_cell hGT9.out 2
        have cT3 := blk_cell hGT9.out 3
        have cT4 := blk_cell hGT9.out 4
        have cT5 := blk_cell hGT9.out 5
        simp at cT0 cT1 cT2 cT3 cT4 cT5
        have fT := blk_free hGT9.out
        go_wp2_with fail
        go_region
        clear fT
        clear cS0 cS1 cS2 cS3 cS4 cS5 cS6 cT0 cT1 cT2 cT3 cT4 cT5
        have hGT10 : Hid ((w9.setCell ⟨w.heap.size, 2, none⟩ (.int .i64 (s.low + (start + (k : Int)) % mn))).drew.heap[w.heap.size]? = some (.cells #[.int .i64 g.proto, .int .i64 s.goal, .int .i64 (s.low + (start + (k : Int)) % mn), .int .i64 g.dst, .int .i64 dp, .int .i64 g.kind] 52)) := by
          have := (blk_set hGT9.out 2 (.int .i64 (s.low + (start + (k : Int)) % mn)))
          exact this
        have hGO10 : Hid ((w9.setCell ⟨w.heap.size, 2, none⟩ (.int .i64 (s.low + (start + (k : Int)) % mn))).drew.heap[w.heap.size + 1]? = some (.cells #[.int .i64 0, .int .i64 0, .int .i64 0, .int .i64 0, .int .i64 0, .int .i64 0, .int .i64 0] 57)) := by
          have := (blk_other (B := w.heap.size) hGO9.out (by omega) 2 (.int .i64 (s.low + (start + (k : Int)) % mn)))
          exact this
        have hGS10 : Hid ((w9.setCell ⟨w.heap.size, 2, none⟩ (.int .i64 (s.low + (start + (k : Int)) % mn))).drew.heap[w6.heap.size]? = some (.cells #[.int .i64 s.kind, .int .i64 s.proto, .int .i64 s.net, .int .i64 s.bits, .int .i64 s.goal, .int .i64 s.low, .int .i64 s.high] 64)) := by
          have := (blk_other (B := w.heap.size) hGS9.out (by omega) 2 (.int .i64 (s.low + (start + (k : Int)) % mn)))
          exact this
        have hL10 := hidS (Below.drew (below_at (k := 2) (b := w.heap.size) (v := .int .i64 (s.low + (start + (k : Int)) % mn)) hL9.out (by omega)))
        clear hL9 hGT9 hGO9 hGS9
        generalize (w9.setCell ⟨w.heap.size, 2, none⟩ (.int .i64 (s.low + (start + (k : Int)) % mn))).drew = w10 at hGT10 hGO10 hGS10 hL10 ⊢
        generalize s.low + (start + (k : Int)) % mn = pv at HPN hGT10 ⊢
        clear k1 k2 k3 k4 k5 k6
        by_cases p1 : g.proto = 1
        · have b1 : (g.proto == 1) = true := by simp [p1]
          have hX : Hid (g.proto ≠ 1 → pv = g.dport) := fun h => absurd p1 h
          have NE : Hid (nameK s g start k = (⟨g.proto, s.goal, pv, g.dst, pv, g.kind⟩ : Tp)) := by show nameK s g start k = _; unfold nameK senderT; rw [HPN.out, if_pos p1]
          have NR : Hid (rightT (⟨g.proto, s.goal, pv, g.dst, pv, g.kind⟩ : Tp) = true) := by show rightT (⟨g.proto, s.goal, pv, g.dst, pv, g.kind⟩ : Tp) = true; rw [← NE.out]; exact name_right HSR.out HGR.out hs k
          have HLU := hidS (fun W h => HL8.out (⟨g.proto, s.goal, pv, g.dst, pv, g.kind⟩ : Tp) W h NR.out)
          clear p1 hD HPN
          have cT0 := blk_cell hGT10.out 0
          have cT1 := blk_cell hGT10.out 1
          have cT2 := blk_cell hGT10.out 2
          have cT3 := blk_cell hGT10.out 3
          have cT4 := blk_cell hGT10.out 4
          have cT5 := blk_cell hGT10.out 5
          simp at cT0 cT1 cT2 cT3 cT4 cT5
          have fT := blk_free hGT10.out
          go_upto_region 20 with fail
          clear fT
          clear cT0 cT1 cT2 cT3 cT4 cT5
          have hGT11 : Hid ((w10.setCell ⟨w.heap.size, 4, none⟩ (.int .i64 pv)).heap[w.heap.size]? = some (.cells #[.int .i64 g.proto, .int .i64 s.goal, .int .i64 pv, .int .i64 g.dst, .int .i64 pv, .int .i64 g.kind] 52)) := by
            have := (blk_set hGT10.out 4 (.int .i64 pv))
            exact this
          have hGO11 := hidS (blk_other (B := w.heap.size) hGO10.out (by omega) 4 (.int .i64 pv))
          have hGS11 := hidS (blk_other (B := w.heap.size) hGS10.out (by omega) 4 (.int .i64 pv))
          have hL11 := hidS (below_at (k := 4) (b := w.heap.size) (v := .int .i64 pv) hL10.out (by omega))
          clear hL10 hGT10 hGO10 hGS10
          generalize (w10.setCell ⟨w.heap.size, 4, none⟩ (.int .i64 pv)) = w11 at hGT11 hGO11 hGS11 hL11 ⊢
          have cT0 := blk_cell hGT11.out 0
          have cT1 := blk_cell hGT11.out 1
          have cT2 := blk_cell hGT11.out 2
          have cT3 := blk_cell hGT11.out 3
          have cT4 := blk_cell hGT11.out 4
          have cT5 := blk_cell hGT11.out 5
          simp at cT0 cT1 cT2 cT3 cT4 cT5
          go_wp2_with fail
          refine (HLU.out _ hL11.out).mono ?_
          rintro _ w12 ⟨rfl, hb12⟩
          clear cT0 cT1 cT2 cT3 cT4 cT5
          have hGT12 := hidS (blk_later hGT11.out hb12)
          have hGO12 := hidS (blk_later hGO11.out hb12)
          have hGS12 := hidS (blk_later hGS11.out hb12)
          have hL12 := hidS (hL11.out.trans (hb12.mono hL11.out.size))
          clear hb12 hL11 hGT11 hGO11 hGS11 HLU NR
          cases hq : usedB used (⟨g.proto, s.goal, pv, g.dst, pv, g.kind⟩ : Tp)
          · have EF : Hid (goesF l t start used = some (⟨g.proto, s.goal, pv, g.dst, pv, g.kind⟩ : Tp)) := by
              show goesF l t start used = _
              rw [EF0.out, ← HFS.out, hF.out, show N - k = (N - k - 1) + 1 by omega, freeF_here (by rw [NE.out]; exact hq), NE.out]
            clear EF0 HFS hF NE hX hq HL8
            have cT0 := blk_cell hGT12.out 0
            have cT1 := blk_cell hGT12.out 1
            have cT2 := blk_cell hGT12.out 2
            have cT3 := blk_cell hGT12.out 3
            have cT4 := blk_cell hGT12.out 4
            have cT5 := blk_cell hGT12.out 5
            simp at cT0 cT1 cT2 cT3 cT4 cT5
            have kO := blk_cell hGO12.out
            have fO := blk_free hGO12.out
            go_wp2_with fail
            refine bodyPost_ret (v := .agg #[.int .i64 g.proto, .int .i64 s.goal, .int .i64 pv, .int .i64 g.dst, .int .i64 pv, .int .i64 g.kind, .int .i64 0]) (by simp [results, Try.results79, go_sem, *]) rfl ⟨by rw [EF.out]; rfl, ?_⟩
            repeat (refine below_at ?_ (by omega))
            exact hL12.out
          · have hF2 : Hid (freeF used (nameK s g start) 0 N = freeF used (nameK s g start) (k + 1) (N - (k + 1))) := by
              show freeF used (nameK s g start) 0 N = _
              rw [hF.out, show N - k = (N - (k + 1)) + 1 by omega, freeF_succ (by rw [NE.out]; exact hq)]
            clear hF NE hq EF0 HFS
            go_wp2_with fail
            go_roundw
            case rel => exact ⟨k + 1, pv, pv, by simp, by omega, hF2, hX, hGT12, hGO12, hGS12, hL12.out⟩
            case measure => simp [intOf]; omega
        · have b1 : (g.proto == 1) = false := by simp [p1]
          have hX : Hid (g.proto ≠ 1 → dp = g.dport) := hD.out
          have NE : Hid (nameK s g start k = (⟨g.proto, s.goal, pv, g.dst, dp, g.kind⟩ : Tp)) := by show nameK s g start k = _; unfold nameK senderT; rw [HPN.out, if_neg p1, hD.out p1]
          have NR : Hid (rightT (⟨g.proto, s.goal, pv, g.dst, dp, g.kind⟩ : Tp) = true) := by show rightT (⟨g.proto, s.goal, pv, g.dst, dp, g.kind⟩ : Tp) = true; rw [← NE.out]; exact name_right HSR.out HGR.out hs k
          have HLU := hidS (fun W h => HL8.out (⟨g.proto, s.goal, pv, g.dst, dp, g.kind⟩ : Tp) W h NR.out)
          clear p1 hD HPN
          have cT0 := blk_cell hGT10.out 0
          have cT1 := blk_cell hGT10.out 1
          have cT2 := blk_cell hGT10.out 2
          have cT3 := blk_cell hGT10.out 3
          have cT4 := blk_cell hGT10.out 4
          have cT5 := blk_cell hGT10.out 5
          simp at cT0 cT1 cT2 cT3 cT4 cT5
          have fT := blk_free hGT10.out
          go_upto_region 20 with fail
          clear fT
          clear cT0 cT1 cT2 cT3 cT4 cT5
          have cT0 := blk_cell hGT10.out 0
          have cT1 := blk_cell hGT10.out 1
          have cT2 := blk_cell hGT10.out 2
          have cT3 := blk_cell hGT10.out 3
          have cT4 := blk_cell hGT10.out 4
          have cT5 := blk_cell hGT10.out 5
          simp at cT0 cT1 cT2 cT3 cT4 cT5
          go_wp2_with fail
          refine (HLU.out _ hL10.out).mono ?_
          rintro _ w11 ⟨rfl, hb11⟩
          clear cT0 cT1 cT2 cT3 cT4 cT5
          have hGT11 := hidS (blk_later hGT10.out hb11)
          have hGO11 := hidS (blk_later hGO10.out hb11)
          have hGS11 := hidS (blk_later hGS10.out hb11)
          have hL11 := hidS (hL10.out.trans (hb11.mono hL10.out.size))
          clear hb11 hL10 hGT10 hGO10 hGS10 HLU NR
          cases hq : usedB used (⟨g.proto, s.goal, pv, g.dst, dp, g.kind⟩ : Tp)
          · have EF : Hid (goesF l t start used = some (⟨g.proto, s.goal, pv, g.dst, dp, g.kind⟩ : Tp)) := by
              show goesF l t start used = _
              rw [EF0.out, ← HFS.out, hF.out, show N - k = (N - k - 1) + 1 by omega, freeF_here (by rw [NE.out]; exact hq), NE.out]
            clear EF0 HFS hF NE hX hq HL8
            have cT0 := blk_cell hGT11.out 0
            have cT1 := blk_cell hGT11.out 1
            have cT2 := blk_cell hGT11.out 2
            have cT3 := blk_cell hGT11.out 3
            have cT4 := blk_cell hGT11.out 4
            have cT5 := blk_cell hGT11.out 5
            simp at cT0 cT1 cT2 cT3 cT4 cT5
            have kO := blk_cell hGO11.out
            have fO := blk_free hGO11.out
            go_wp2_with fail
            refine bodyPost_ret (v := .agg #[.int .i64 g.proto, .int .i64 s.goal, .int .i64 pv, .int .i64 g.dst, .int .i64 dp, .int .i64 g.kind, .int .i64 0]) (by simp [results, Try.results79, go_sem, *]) rfl ⟨by rw [EF.out]; rfl, ?_⟩
            repeat (refine below_at ?_ (by omega))
            exact hL11.out
          · have hF2 : Hid (freeF used (nameK s g start) 0 N = freeF used (nameK s g start) (k + 1) (N - (k + 1))) := by
              show freeF used (nameK s g start) 0 N = _
              rw [hF.out, show N - k = (N - (k + 1)) + 1 by omega, freeF_succ (by rw [NE.out]; exact hq)]
            clear hF NE hq EF0 HFS
            go_wp2_with fail
            go_roundw
            case rel => exact ⟨k + 1, pv, dp, by simp, by omega, hF2, hX, hGT11, hGO11, hGS11, hL11.out⟩
            case measure => simp [intOf]; omega
      · have hge : ¬ (k : Int) < (N : Int) := by omega
        have EF : Hid (goesF l t start used = none) := by
          show goesF l t start used = none
          rw [EF0.out, ← HFS.out, hF.out, show N - k = 0 by omega]
          rfl
        clear EF0 HFS hF hD hlt HL8
        have kO := blk_cell hGO9.out
        have fO := blk_free hGO9.out
        go_wp2_with fail
        refine bodyPost_ret (v := .agg #[.int .i64 0, .int .i64 0, .int .i64 0, .int .i64 0, .int .i64 0, .int .i64 0, .int .i64 9]) (by simp [results, Try.results79, go_sem, *]) rfl ⟨by rw [EF.out]; rfl, ?_⟩
        repeat (refine below_at ?_ (by omega))
        exact hL9.out
end Go.Proofs.Ytilajoafppplcaa
