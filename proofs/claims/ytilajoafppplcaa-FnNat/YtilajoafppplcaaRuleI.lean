/- Proved here: impl.RuleRight answers whether a rule is right; all old memory stays (no conditions). -/
import Derived.Test.YtilajoafppplcaaAll27
import Derived.Test.YtilajoafppplcaaAll18
import Derived.Deep.Cut
import Derived.Deep.CutBlock
import Derived.Deep.DeepCutAuto
namespace Go.Proofs.Ytilajoafppplcaa
open Go.ChangeShapes Go.WideShapes Go.ChangeAt Go.RowKit
set_option linter.unusedVariables false
set_option linter.unusedSimpArgs false
set_option maxRecDepth 100000

set_option maxHeartbeats 8000000 in
theorem implRR_any (r : Rl) (w : World) :
    Calls Try.prog 30 #[.agg #[.int .i64 r.kind, .int .i64 r.proto, .int .i64 r.net, .int .i64 r.bits, .int .i64 r.goal, .int .i64 r.low, .int .i64 r.high]] w fun e w' => e = .returned (.bool (rightR r)) ∧ Below w.heap.size w w' := by
  have hE : Hid (rightR r = (kindB r.kind && protoB r.proto && netB r.net r.bits && addrB r.goal && wordB r.low && wordB r.high && decide (r.low ≤ r.high) && (r.kind == 1 || r.low == r.high))) := rfl
  have hW2 : Hid (allW [r.low, r.high] = (wordB r.low && wordB r.high)) := by unfold Hid allW; simp
  have HK := hidS (fun W => isRuleKind_any r.kind W)
  have HP := hidS (fun W => isRuleProto_any r.proto W)
  have HN := hidS (fun W => isNet_any r.net r.bits W)
  cases hk : kindB r.kind
  · rw [hk] at HK
    have E : Hid (rightR r = false) := hE.out.trans (by rw [hk] <;> simp)
    clear hE hW2
    have hGR0 : Hid ((w.alloc (.cells #[.int .i64 r.kind, .int .i64 r.proto, .int .i64 r.net, .int .i64 r.bits, .int .i64 r.goal, .int .i64 r.low, .int .i64 r.high] 64)).heap[w.heap.size]? = some (.cells #[.int .i64 r.kind, .int .i64 r.proto, .int .i64 r.net, .int .i64 r.bits, .int .i64 r.goal, .int .i64 r.low, .int .i64 r.high] 64)) := by
      show _ = _
      have := heap_newG w (.cells #[.int .i64 r.kind, .int .i64 r.proto, .int .i64 r.net, .int .i64 r.bits, .int .i64 r.goal, .int .i64 r.low, .int .i64 r.high] 64)
      simpa using this
    have hL0 := hidS ((Below.refl w.heap.size w).alloc (Nat.le_refl _) (.cells #[.int .i64 r.kind, .int .i64 r.proto, .int .i64 r.net, .int .i64 r.bits, .int .i64 r.goal, .int .i64 r.low, .int .i64 r.high] 64))
    go_enter Try.func30, Try.ntmps30
    go_wp2_with fail
    refine (HK.out _).mono ?_
    rintro _ v9 ⟨rfl, hv9⟩
    rw [hv9]
    clear hv9 v9
    go_wp2_with fail
    go_ret
    exact ⟨by rw [E.out]; rfl, hL0.out⟩
  rw [hk] at HK
  cases hp : protoB r.proto
  · rw [hp] at HP
    have E : Hid (rightR r = false) := hE.out.trans (by rw [hp] <;> simp)
    clear hE hW2
    have hGR0 : Hid ((w.alloc (.cells #[.int .i64 r.kind, .int .i64 r.proto, .int .i64 r.net, .int .i64 r.bits, .int .i64 r.goal, .int .i64 r.low, .int .i64 r.high] 64)).heap[w.heap.size]? = some (.cells #[.int .i64 r.kind, .int .i64 r.proto, .int .i64 r.net, .int .i64 r.bits, .int .i64 r.goal, .int .i64 r.low, .int .i64 r.high] 64)) := by
      show _ = _
      have := heap_newG w (.cells #[.int .i64 r.kind, .int .i64 r.proto, .int .i64 r.net, .int .i64 r.bits, .int .i64 r.goal, .int .i64 r.low, .int .i64 r.high] 64)
      simpa using this
    have hL0 := hidS ((Below.refl w.heap.size w).alloc (Nat.le_refl _) (.cells #[.int .i64 r.kind, .int .i64 r.proto, .int .i64 r.net, .int .i64 r.bits, .int .i64 r.goal, .int .i64 r.low, .int .i64 r.high] 64))
    go_enter Try.func30, Try.ntmps30
    go_wp2_with fail
    refine (HK.out _).mono ?_
    rintro _ v9 ⟨rfl, hv9⟩
    rw [hv9]
    clear hv9 v9
    go_wp2_with fail
    refine (HP.out _).mono ?_
    rintro _ v9 ⟨rfl, hv9⟩
    rw [hv9]
    clear hv9 v9
    go_wp2_with fail
    go_ret
    exact ⟨by rw [E.out]; rfl, hL0.out⟩
  rw [hp] at HP
  cases hn : netB r.net r.bits
  · rw [hn] at HN
    have E : Hid (rightR r = false) := hE.out.trans (by rw [hn] <;> simp)
    clear hE hW2
    have hGR0 : Hid ((w.alloc (.cells #[.int .i64 r.kind, .int .i64 r.proto, .int .i64 r.net, .int .i64 r.bits, .int .i64 r.goal, .int .i64 r.low, .int .i64 r.high] 64)).heap[w.heap.size]? = some (.cells #[.int .i64 r.kind, .int .i64 r.proto, .int .i64 r.net, .int .i64 r.bits, .int .i64 r.goal, .int .i64 r.low, .int .i64 r.high] 64)) := by
      show _ = _
      have := heap_newG w (.cells #[.int .i64 r.kind, .int .i64 r.proto, .int .i64 r.net, .int .i64 r.bits, .int .i64 r.goal, .int .i64 r.low, .int .i64 r.high] 64)
      simpa using this
    have hL0 := hidS ((Below.refl w.heap.size w).alloc (Nat.le_refl _) (.cells #[.int .i64 r.kind, .int .i64 r.proto, .int .i64 r.net, .int .i64 r.bits, .int .i64 r.goal, .int .i64 r.low, .int .i64 r.high] 64))
    go_enter Try.func30, Try.ntmps30
    go_wp2_with fail
    refine (HK.out _).mono ?_
    rintro _ v9 ⟨rfl, hv9⟩
    rw [hv9]
    clear hv9 v9
    go_wp2_with fail
    refine (HP.out _).mono ?_
    rintro _ v9 ⟨rfl, hv9⟩
    rw [hv9]
    clear hv9 v9
    go_wp2_with fail
    refine (HN.out _).mono ?_
    rintro _ w1 ⟨rfl, hb1⟩
    have hGR1 := hidS (blk_later hGR0.out hb1)
    have hL1 := hidS (hL0.out.trans (hb1.mono hL0.out.size))
    clear hb1 hL0 hGR0
    have lR := blk_lt hGR1.out
    have cR0 := blk_cell hGR1.out 0
    have cR1 := blk_cell hGR1.out 1
    have cR2 := blk_cell hGR1.out 2
    have cR3 := blk_cell hGR1.out 3
    have cR4 := blk_cell hGR1.out 4
    have cR5 := blk_cell hGR1.out 5
    have cR6 := blk_cell hGR1.out 6
    simp at cR0 cR1 cR2 cR3 cR4 cR5 cR6
    go_wp2_with fail
    go_ret
    exact ⟨by rw [E.out]; rfl, hL1.out⟩
  rw [hn] at HN
  cases ha : addrB r.goal
  · have E : Hid (rightR r = false) := hE.out.trans (by rw [ha] <;> simp)
    clear hE hW2
    have hGR0 : Hid ((w.alloc (.cells #[.int .i64 r.kind, .int .i64 r.proto, .int .i64 r.net, .int .i64 r.bits, .int .i64 r.goal, .int .i64 r.low, .int .i64 r.high] 64)).heap[w.heap.size]? = some (.cells #[.int .i64 r.kind, .int .i64 r.proto, .int .i64 r.net, .int .i64 r.bits, .int .i64 r.goal, .int .i64 r.low, .int .i64 r.high] 64)) := by
      show _ = _
      have := heap_newG w (.cells #[.int .i64 r.kind, .int .i64 r.proto, .int .i64 r.net, .int .i64 r.bits, .int .i64 r.goal, .int .i64 r.low, .int .i64 r.high] 64)
      simpa using this
    have hL0 := hidS ((Below.refl w.heap.size w).alloc (Nat.le_refl _) (.cells #[.int .i64 r.kind, .int .i64 r.proto, .int .i64 r.net, .int .i64 r.bits, .int .i64 r.goal, .int .i64 r.low, .int .i64 r.high] 64))
    go_enter Try.func30, Try.ntmps30
    go_wp2_with fail
    refine (HK.out _).mono ?_
    rintro _ v9 ⟨rfl, hv9⟩
    rw [hv9]
    clear hv9 v9
    go_wp2_with fail
    refine (HP.out _).mono ?_
    rintro _ v9 ⟨rfl, hv9⟩
    rw [hv9]
    clear hv9 v9
    go_wp2_with fail
    refine (HN.out _).mono ?_
    rintro _ w1 ⟨rfl, hb1⟩
    have hGR1 := hidS (blk_later hGR0.out hb1)
    have hL1 := hidS (hL0.out.trans (hb1.mono hL0.out.size))
    clear hb1 hL0 hGR0
    have lR := blk_lt hGR1.out
    have cR0 := blk_cell hGR1.out 0
    have cR1 := blk_cell hGR1.out 1
    have cR2 := blk_cell hGR1.out 2
    have cR3 := blk_cell hGR1.out 3
    have cR4 := blk_cell hGR1.out 4
    have cR5 := blk_cell hGR1.out 5
    have cR6 := blk_cell hGR1.out 6
    simp at cR0 cR1 cR2 cR3 cR4 cR5 cR6
    go_wp2_with fail
    refine (areAddrs_one w1.heap.size r.goal _ (blk_cell (heap_newG w1 (.cells #[.int .i64 r.goal] 2)) 0)).mono ?_
    rintro _ v9 ⟨rfl, hv9⟩
    rw [hv9]
    clear hv9 v9
    clear lR cR0 cR1 cR2 cR3 cR4 cR5 cR6
    have hGA2 := hidS (heap_newG w1 (.cells #[.int .i64 r.goal] 2))
    have nA := blk_lt hGR1.out
    have hGR2 := hidS (blk_alloc hGR1.out (.cells #[.int .i64 r.goal] 2))
    have hL2 := hidS (hL1.out.alloc hL1.out.size (.cells #[.int .i64 r.goal] 2))
    clear hL1 hGR1
    generalize w1.alloc (.cells #[.int .i64 r.goal] 2) = w2 at hGR2 hGA2 hL2 ⊢
    have lR := blk_lt hGR2.out
    have cR0 := blk_cell hGR2.out 0
    have cR1 := blk_cell hGR2.out 1
    have cR2 := blk_cell hGR2.out 2
    have cR3 := blk_cell hGR2.out 3
    have cR4 := blk_cell hGR2.out 4
    have cR5 := blk_cell hGR2.out 5
    have cR6 := blk_cell hGR2.out 6
    simp at cR0 cR1 cR2 cR3 cR4 cR5 cR6
    rw [ha]
    go_wp2_with fail
    go_ret
    exact ⟨by rw [E.out]; rfl, hL2.out⟩
  have E0 := hidS (hE.out.trans (by rw [hk, hp, hn, ha]))
  clear hE
  cases hw : allW [r.low, r.high]
  · have E : Hid (rightR r = false) := E0.out.trans (by rw [hW2.out] at hw; rw [Bool.and_assoc (true && true && true && true) _ _, hw] <;> simp)
    clear E0 hW2
    have hGR0 : Hid ((w.alloc (.cells #[.int .i64 r.kind, .int .i64 r.proto, .int .i64 r.net, .int .i64 r.bits, .int .i64 r.goal, .int .i64 r.low, .int .i64 r.high] 64)).heap[w.heap.size]? = some (.cells #[.int .i64 r.kind, .int .i64 r.proto, .int .i64 r.net, .int .i64 r.bits, .int .i64 r.goal, .int .i64 r.low, .int .i64 r.high] 64)) := by
      show _ = _
      have := heap_newG w (.cells #[.int .i64 r.kind, .int .i64 r.proto, .int .i64 r.net, .int .i64 r.bits, .int .i64 r.goal, .int .i64 r.low, .int .i64 r.high] 64)
      simpa using this
    have hL0 := hidS ((Below.refl w.heap.size w).alloc (Nat.le_refl _) (.cells #[.int .i64 r.kind, .int .i64 r.proto, .int .i64 r.net, .int .i64 r.bits, .int .i64 r.goal, .int .i64 r.low, .int .i64 r.high] 64))
    go_enter Try.func30, Try.ntmps30
    go_wp2_with fail
    refine (HK.out _).mono ?_
    rintro _ v9 ⟨rfl, hv9⟩
    rw [hv9]
    clear hv9 v9
    go_wp2_with fail
    refine (HP.out _).mono ?_
    rintro _ v9 ⟨rfl, hv9⟩
    rw [hv9]
    clear hv9 v9
    go_wp2_with fail
    refine (HN.out _).mono ?_
    rintro _ w1 ⟨rfl, hb1⟩
    have hGR1 := hidS (blk_later hGR0.out hb1)
    have hL1 := hidS (hL0.out.trans (hb1.mono hL0.out.size))
    clear hb1 hL0 hGR0
    have lR := blk_lt hGR1.out
    have cR0 := blk_cell hGR1.out 0
    have cR1 := blk_cell hGR1.out 1
    have cR2 := blk_cell hGR1.out 2
    have cR3 := blk_cell hGR1.out 3
    have cR4 := blk_cell hGR1.out 4
    have cR5 := blk_cell hGR1.out 5
    have cR6 := blk_cell hGR1.out 6
    simp at cR0 cR1 cR2 cR3 cR4 cR5 cR6
    go_wp2_with fail
    refine (areAddrs_one w1.heap.size r.goal _ (blk_cell (heap_newG w1 (.cells #[.int .i64 r.goal] 2)) 0)).mono ?_
    rintro _ v9 ⟨rfl, hv9⟩
    rw [hv9]
    clear hv9 v9
    clear lR cR0 cR1 cR2 cR3 cR4 cR5 cR6
    have hGA2 := hidS (heap_newG w1 (.cells #[.int .i64 r.goal] 2))
    have nA := blk_lt hGR1.out
    have hGR2 := hidS (blk_alloc hGR1.out (.cells #[.int .i64 r.goal] 2))
    have hL2 := hidS (hL1.out.alloc hL1.out.size (.cells #[.int .i64 r.goal] 2))
    clear hL1 hGR1
    generalize w1.alloc (.cells #[.int .i64 r.goal] 2) = w2 at hGR2 hGA2 hL2 ⊢
    have lR := blk_lt hGR2.out
    have cR0 := blk_cell hGR2.out 0
    have cR1 := blk_cell hGR2.out 1
    have cR2 := blk_cell hGR2.out 2
    have cR3 := blk_cell hGR2.out 3
    have cR4 := blk_cell hGR2.out 4
    have cR5 := blk_cell hGR2.out 5
    have cR6 := blk_cell hGR2.out 6
    simp at cR0 cR1 cR2 cR3 cR4 cR5 cR6
    rw [ha]
    go_wp2_with fail
    refine (areWords_any w2.heap.size [r.low, r.high] _ (two_cells w2 r.low r.high 2) (by simp)).mono ?_
    rintro _ v9 ⟨rfl, hv9⟩
    rw [hv9]
    clear hv9 v9
    clear lR cR0 cR1 cR2 cR3 cR4 cR5 cR6
    have hGD3 := hidS (heap_newG w2 (.cells #[.int .i64 r.low, .int .i64 r.high] 2))
    have nD := blk_lt hGR2.out
    have hGR3 := hidS (blk_alloc hGR2.out (.cells #[.int .i64 r.low, .int .i64 r.high] 2))
    have hGA3 := hidS (blk_alloc hGA2.out (.cells #[.int .i64 r.low, .int .i64 r.high] 2))
    have hL3 := hidS (hL2.out.alloc hL2.out.size (.cells #[.int .i64 r.low, .int .i64 r.high] 2))
    clear hL2 hGR2 hGA2
    generalize w2.alloc (.cells #[.int .i64 r.low, .int .i64 r.high] 2) = w3 at hGR3 hGA3 hGD3 hL3 ⊢
    have lR := blk_lt hGR3.out
    have cR0 := blk_cell hGR3.out 0
    have cR1 := blk_cell hGR3.out 1
    have cR2 := blk_cell hGR3.out 2
    have cR3 := blk_cell hGR3.out 3
    have cR4 := blk_cell hGR3.out 4
    have cR5 := blk_cell hGR3.out 5
    have cR6 := blk_cell hGR3.out 6
    simp at cR0 cR1 cR2 cR3 cR4 cR5 cR6
    rw [hw]
    go_wp2_with fail
    go_ret
    exact ⟨by rw [E.out]; rfl, hL3.out⟩
  have E1 : Hid (rightR r = (decide (r.low ≤ r.high) && (r.kind == 1 || r.low == r.high))) := E0.out.trans (by rw [hW2.out] at hw; rw [Bool.and_assoc (true && true && true && true) _ _, hw] <;> simp)
  clear E0 hW2
  by_cases hl : r.low ≤ r.high
  · cases k1 : (r.kind == 1)
    · cases kl : (r.low == r.high)
      · have E : Hid (rightR r = false) := E1.out.trans (by rw [k1, kl]; simp)
        clear E1
        have hGR0 : Hid ((w.alloc (.cells #[.int .i64 r.kind, .int .i64 r.proto, .int .i64 r.net, .int .i64 r.bits, .int .i64 r.goal, .int .i64 r.low, .int .i64 r.high] 64)).heap[w.heap.size]? = some (.cells #[.int .i64 r.kind, .int .i64 r.proto, .int .i64 r.net, .int .i64 r.bits, .int .i64 r.goal, .int .i64 r.low, .int .i64 r.high] 64)) := by
          show _ = _
          have := heap_newG w (.cells #[.int .i64 r.kind, .int .i64 r.proto, .int .i64 r.net, .int .i64 r.bits, .int .i64 r.goal, .int .i64 r.low, .int .i64 r.high] 64)
          simpa using this
        have hL0 := hidS ((Below.refl w.heap.size w).alloc (Nat.le_refl _) (.cells #[.int .i64 r.kind, .int .i64 r.proto, .int .i64 r.net, .int .i64 r.bits, .int .i64 r.goal, .int .i64 r.low, .int .i64 r.high] 64))
        go_enter Try.func30, Try.ntmps30
        go_wp2_with fail
        refine (HK.out _).mono ?_
        rintro _ v9 ⟨rfl, hv9⟩
        rw [hv9]
        clear hv9 v9
        go_wp2_with fail
        refine (HP.out _).mono ?_
        rintro _ v9 ⟨rfl, hv9⟩
        rw [hv9]
        clear hv9 v9
        go_wp2_with fail
        refine (HN.out _).mono ?_
        rintro _ w1 ⟨rfl, hb1⟩
        have hGR1 := hidS (blk_later hGR0.out hb1)
        have hL1 := hidS (hL0.out.trans (hb1.mono hL0.out.size))
        clear hb1 hL0 hGR0
        have lR := blk_lt hGR1.out
        have cR0 := blk_cell hGR1.out 0
        have cR1 := blk_cell hGR1.out 1
        have cR2 := blk_cell hGR1.out 2
        have cR3 := blk_cell hGR1.out 3
        have cR4 := blk_cell hGR1.out 4
        have cR5 := blk_cell hGR1.out 5
        have cR6 := blk_cell hGR1.out 6
        simp at cR0 cR1 cR2 cR3 cR4 cR5 cR6
        go_wp2_with fail
        refine (areAddrs_one w1.heap.size r.goal _ (blk_cell (heap_newG w1 (.cells #[.int .i64 r.goal] 2)) 0)).mono ?_
        rintro _ v9 ⟨rfl, hv9⟩
        rw [hv9]
        clear hv9 v9
        clear lR cR0 cR1 cR2 cR3 cR4 cR5 cR6
        have hGA2 := hidS (heap_newG w1 (.cells #[.int .i64 r.goal] 2))
        have nA := blk_lt hGR1.out
        have hGR2 := hidS (blk_alloc hGR1.out (.cells #[.int .i64 r.goal] 2))
        have hL2 := hidS (hL1.out.alloc hL1.out.size (.cells #[.int .i64 r.goal] 2))
        clear hL1 hGR1
        generalize w1.alloc (.cells #[.int .i64 r.goal] 2) = w2 at hGR2 hGA2 hL2 ⊢
        have lR := blk_lt hGR2.out
        have cR0 := blk_cell hGR2.out 0
        have cR1 := blk_cell hGR2.out 1
        have cR2 := blk_cell hGR2.out 2
        have cR3 := blk_cell hGR2.out 3
        have cR4 := blk_cell hGR2.out 4
        have cR5 := blk_cell hGR2.out 5
        have cR6 := blk_cell hGR2.out 6
        simp at cR0 cR1 cR2 cR3 cR4 cR5 cR6
        rw [ha]
        go_wp2_with fail
        refine (areWords_any w2.heap.size [r.low, r.high] _ (two_cells w2 r.low r.high 2) (by simp)).mono ?_
        rintro _ v9 ⟨rfl, hv9⟩
        rw [hv9]
        clear hv9 v9
        clear lR cR0 cR1 cR2 cR3 cR4 cR5 cR6
        have hGD3 := hidS (heap_newG w2 (.cells #[.int .i64 r.low, .int .i64 r.high] 2))
        have nD := blk_lt hGR2.out
        have hGR3 := hidS (blk_alloc hGR2.out (.cells #[.int .i64 r.low, .int .i64 r.high] 2))
        have hGA3 := hidS (blk_alloc hGA2.out (.cells #[.int .i64 r.low, .int .i64 r.high] 2))
        have hL3 := hidS (hL2.out.alloc hL2.out.size (.cells #[.int .i64 r.low, .int .i64 r.high] 2))
        clear hL2 hGR2 hGA2
        generalize w2.alloc (.cells #[.int .i64 r.low, .int .i64 r.high] 2) = w3 at hGR3 hGA3 hGD3 hL3 ⊢
        have lR := blk_lt hGR3.out
        have cR0 := blk_cell hGR3.out 0
        have cR1 := blk_cell hGR3.out 1
        have cR2 := blk_cell hGR3.out 2
        have cR3 := blk_cell hGR3.out 3
        have cR4 := blk_cell hGR3.out 4
        have cR5 := blk_cell hGR3.out 5
        have cR6 := blk_cell hGR3.out 6
        simp at cR0 cR1 cR2 cR3 cR4 cR5 cR6
        rw [hw]
        go_wp2_with fail
        go_ret
        exact ⟨by rw [E.out]; rfl, hL3.out⟩
      · have E : Hid (rightR r = true) := E1.out.trans (by rw [k1, kl]; simp [hl])
        clear E1
        have hGR0 : Hid ((w.alloc (.cells #[.int .i64 r.kind, .int .i64 r.proto, .int .i64 r.net, .int .i64 r.bits, .int .i64 r.goal, .int .i64 r.low, .int .i64 r.high] 64)).heap[w.heap.size]? = some (.cells #[.int .i64 r.kind, .int .i64 r.proto, .int .i64 r.net, .int .i64 r.bits, .int .i64 r.goal, .int .i64 r.low, .int .i64 r.high] 64)) := by
          show _ = _
          have := heap_newG w (.cells #[.int .i64 r.kind, .int .i64 r.proto, .int .i64 r.net, .int .i64 r.bits, .int .i64 r.goal, .int .i64 r.low, .int .i64 r.high] 64)
          simpa using this
        have hL0 := hidS ((Below.refl w.heap.size w).alloc (Nat.le_refl _) (.cells #[.int .i64 r.kind, .int .i64 r.proto, .int .i64 r.net, .int .i64 r.bits, .int .i64 r.goal, .int .i64 r.low, .int .i64 r.high] 64))
        go_enter Try.func30, Try.ntmps30
        go_wp2_with fail
        refine (HK.out _).mono ?_
        rintro _ v9 ⟨rfl, hv9⟩
        rw [hv9]
        clear hv9 v9
        go_wp2_with fail
        refine (HP.out _).mono ?_
        rintro _ v9 ⟨rfl, hv9⟩
        rw [hv9]
        clear hv9 v9
        go_wp2_with fail
        refine (HN.out _).mono ?_
        rintro _ w1 ⟨rfl, hb1⟩
        have hGR1 := hidS (blk_later hGR0.out hb1)
        have hL1 := hidS (hL0.out.trans (hb1.mono hL0.out.size))
        clear hb1 hL0 hGR0
        have lR := blk_lt hGR1.out
        have cR0 := blk_cell hGR1.out 0
        have cR1 := blk_cell hGR1.out 1
        have cR2 := blk_cell hGR1.out 2
        have cR3 := blk_cell hGR1.out 3
        have cR4 := blk_cell hGR1.out 4
        have cR5 := blk_cell hGR1.out 5
        have cR6 := blk_cell hGR1.out 6
        simp at cR0 cR1 cR2 cR3 cR4 cR5 cR6
        go_wp2_with fail
        refine (areAddrs_one w1.heap.size r.goal _ (blk_cell (heap_newG w1 (.cells #[.int .i64 r.goal] 2)) 0)).mono ?_
        rintro _ v9 ⟨rfl, hv9⟩
        rw [hv9]
        clear hv9 v9
        clear lR cR0 cR1 cR2 cR3 cR4 cR5 cR6
        have hGA2 := hidS (heap_newG w1 (.cells #[.int .i64 r.goal] 2))
        have nA := blk_lt hGR1.out
        have hGR2 := hidS (blk_alloc hGR1.out (.cells #[.int .i64 r.goal] 2))
        have hL2 := hidS (hL1.out.alloc hL1.out.size (.cells #[.int .i64 r.goal] 2))
        clear hL1 hGR1
        generalize w1.alloc (.cells #[.int .i64 r.goal] 2) = w2 at hGR2 hGA2 hL2 ⊢
        have lR := blk_lt hGR2.out
        have cR0 := blk_cell hGR2.out 0
        have cR1 := blk_cell hGR2.out 1
        have cR2 := blk_cell hGR2.out 2
        have cR3 := blk_cell hGR2.out 3
        have cR4 := blk_cell hGR2.out 4
        have cR5 := blk_cell hGR2.out 5
        have cR6 := blk_cell hGR2.out 6
        simp at cR0 cR1 cR2 cR3 cR4 cR5 cR6
        rw [ha]
        go_wp2_with fail
        refine (areWords_any w2.heap.size [r.low, r.high] _ (two_cells w2 r.low r.high 2) (by simp)).mono ?_
        rintro _ v9 ⟨rfl, hv9⟩
        rw [hv9]
        clear hv9 v9
        clear lR cR0 cR1 cR2 cR3 cR4 cR5 cR6
        have hGD3 := hidS (heap_newG w2 (.cells #[.int .i64 r.low, .int .i64 r.high] 2))
        have nD := blk_lt hGR2.out
        have hGR3 := hidS (blk_alloc hGR2.out (.cells #[.int .i64 r.low, .int .i64 r.high] 2))
        have hGA3 := hidS (blk_alloc hGA2.out (.cells #[.int .i64 r.low, .int .i64 r.high] 2))
        have hL3 := hidS (hL2.out.alloc hL2.out.size (.cells #[.int .i64 r.low, .int .i64 r.high] 2))
        clear hL2 hGR2 hGA2
        generalize w2.alloc (.cells #[.int .i64 r.low, .int .i64 r.high] 2) = w3 at hGR3 hGA3 hGD3 hL3 ⊢
        have lR := blk_lt hGR3.out
        have cR0 := blk_cell hGR3.out 0
        have cR1 := blk_cell hGR3.out 1
        have cR2 := blk_cell hGR3.out 2
        have cR3 := blk_cell hGR3.out 3
        have cR4 := blk_cell hGR3.out 4
        have cR5 := blk_cell hGR3.out 5
        have cR6 := blk_cell hGR3.out 6
        simp at cR0 cR1 cR2 cR3 cR4 cR5 cR6
        rw [hw]
        go_wp2_with fail
        go_ret
        exact ⟨by rw [E.out]; rfl, hL3.out⟩
    · have E : Hid (rightR r = true) := E1.out.trans (by rw [k1]; simp [hl])
      clear E1
      have hGR0 : Hid ((w.alloc (.cells #[.int .i64 r.kind, .int .i64 r.proto, .int .i64 r.net, .int .i64 r.bits, .int .i64 r.goal, .int .i64 r.low, .int .i64 r.high] 64)).heap[w.heap.size]? = some (.cells #[.int .i64 r.kind, .int .i64 r.proto, .int .i64 r.net, .int .i64 r.bits, .int .i64 r.goal, .int .i64 r.low, .int .i64 r.high] 64)) := by
        show _ = _
        have := heap_newG w (.cells #[.int .i64 r.kind, .int .i64 r.proto, .int .i64 r.net, .int .i64 r.bits, .int .i64 r.goal, .int .i64 r.low, .int .i64 r.high] 64)
        simpa using this
      have hL0 := hidS ((Below.refl w.heap.size w).alloc (Nat.le_refl _) (.cells #[.int .i64 r.kind, .int .i64 r.proto, .int .i64 r.net, .int .i64 r.bits, .int .i64 r.goal, .int .i64 r.low, .int .i64 r.high] 64))
      go_enter Try.func30, Try.ntmps30
      go_wp2_with fail
      refine (HK.out _).mono ?_
      rintro _ v9 ⟨rfl, hv9⟩
      rw [hv9]
      clear hv9 v9
      go_wp2_with fail
      refine (HP.out _).mono ?_
      rintro _ v9 ⟨rfl, hv9⟩
      rw [hv9]
      clear hv9 v9
      go_wp2_with fail
      refine (HN.out _).mono ?_
      rintro _ w1 ⟨rfl, hb1⟩
      have hGR1 := hidS (blk_later hGR0.out hb1)
      have hL1 := hidS (hL0.out.trans (hb1.mono hL0.out.size))
      clear hb1 hL0 hGR0
      have lR := blk_lt hGR1.out
      have cR0 := blk_cell hGR1.out 0
      have cR1 := blk_cell hGR1.out 1
      have cR2 := blk_cell hGR1.out 2
      have cR3 := blk_cell hGR1.out 3
      have cR4 := blk_cell hGR1.out 4
      have cR5 := blk_cell hGR1.out 5
      have cR6 := blk_cell hGR1.out 6
      simp at cR0 cR1 cR2 cR3 cR4 cR5 cR6
      go_wp2_with fail
      refine (areAddrs_one w1.heap.size r.goal _ (blk_cell (heap_newG w1 (.cells #[.int .i64 r.goal] 2)) 0)).mono ?_
      rintro _ v9 ⟨rfl, hv9⟩
      rw [hv9]
      clear hv9 v9
      clear lR cR0 cR1 cR2 cR3 cR4 cR5 cR6
      have hGA2 := hidS (heap_newG w1 (.cells #[.int .i64 r.goal] 2))
      have nA := blk_lt hGR1.out
      have hGR2 := hidS (blk_alloc hGR1.out (.cells #[.int .i64 r.goal] 2))
      have hL2 := hidS (hL1.out.alloc hL1.out.size (.cells #[.int .i64 r.goal] 2))
      clear hL1 hGR1
      generalize w1.alloc (.cells #[.int .i64 r.goal] 2) = w2 at hGR2 hGA2 hL2 ⊢
      have lR := blk_lt hGR2.out
      have cR0 := blk_cell hGR2.out 0
      have cR1 := blk_cell hGR2.out 1
      have cR2 := blk_cell hGR2.out 2
      have cR3 := blk_cell hGR2.out 3
      have cR4 := blk_cell hGR2.out 4
      have cR5 := blk_cell hGR2.out 5
      have cR6 := blk_cell hGR2.out 6
      simp at cR0 cR1 cR2 cR3 cR4 cR5 cR6
      rw [ha]
      go_wp2_with fail
      refine (areWords_any w2.heap.size [r.low, r.high] _ (two_cells w2 r.low r.high 2) (by simp)).mono ?_
      rintro _ v9 ⟨rfl, hv9⟩
      rw [hv9]
      clear hv9 v9
      clear lR cR0 cR1 cR2 cR3 cR4 cR5 cR6
      have hGD3 := hidS (heap_newG w2 (.cells #[.int .i64 r.low, .int .i64 r.high] 2))
      have nD := blk_lt hGR2.out
      have hGR3 := hidS (blk_alloc hGR2.out (.cells #[.int .i64 r.low, .int .i64 r.high] 2))
      have hGA3 := hidS (blk_alloc hGA2.out (.cells #[.int .i64 r.low, .int .i64 r.high] 2))
      have hL3 := hidS (hL2.out.alloc hL2.out.size (.cells #[.int .i64 r.low, .int .i64 r.high] 2))
      clear hL2 hGR2 hGA2
      generalize w2.alloc (.cells #[.int .i64 r.low, .int .i64 r.high] 2) = w3 at hGR3 hGA3 hGD3 hL3 ⊢
      have lR := blk_lt hGR3.out
      have cR0 := blk_cell hGR3.out 0
      have cR1 := blk_cell hGR3.out 1
      have cR2 := blk_cell hGR3.out 2
      have cR3 := blk_cell hGR3.out 3
      have cR4 := blk_cell hGR3.out 4
      have cR5 := blk_cell hGR3.out 5
      have cR6 := blk_cell hGR3.out 6
      simp at cR0 cR1 cR2 cR3 cR4 cR5 cR6
      rw [hw]
      go_wp2_with fail
      go_ret
      exact ⟨by rw [E.out]; rfl, hL3.out⟩
  · have E : Hid (rightR r = false) := E1.out.trans (by simp [hl])
    clear E1
    have hGR0 : Hid ((w.alloc (.cells #[.int .i64 r.kind, .int .i64 r.proto, .int .i64 r.net, .int .i64 r.bits, .int .i64 r.goal, .int .i64 r.low, .int .i64 r.high] 64)).heap[w.heap.size]? = some (.cells #[.int .i64 r.kind, .int .i64 r.proto, .int .i64 r.net, .int .i64 r.bits, .int .i64 r.goal, .int .i64 r.low, .int .i64 r.high] 64)) := by
      show _ = _
      have := heap_newG w (.cells #[.int .i64 r.kind, .int .i64 r.proto, .int .i64 r.net, .int .i64 r.bits, .int .i64 r.goal, .int .i64 r.low, .int .i64 r.high] 64)
      simpa using this
    have hL0 := hidS ((Below.refl w.heap.size w).alloc (Nat.le_refl _) (.cells #[.int .i64 r.kind, .int .i64 r.proto, .int .i64 r.net, .int .i64 r.bits, .int .i64 r.goal, .int .i64 r.low, .int .i64 r.high] 64))
    go_enter Try.func30, Try.ntmps30
    go_wp2_with fail
    refine (HK.out _).mono ?_
    rintro _ v9 ⟨rfl, hv9⟩
    rw [hv9]
    clear hv9 v9
    go_wp2_with fail
    refine (HP.out _).mono ?_
    rintro _ v9 ⟨rfl, hv9⟩
    rw [hv9]
    clear hv9 v9
    go_wp2_with fail
    refine (HN.out _).mono ?_
    rintro _ w1 ⟨rfl, hb1⟩
    have hGR1 := hidS (blk_later hGR0.out hb1)
    have hL1 := hidS (hL0.out.trans (hb1.mono hL0.out.size))
    clear hb1 hL0 hGR0
    have lR := blk_lt hGR1.out
    have cR0 := blk_cell hGR1.out 0
    have cR1 := blk_cell hGR1.out 1
    have cR2 := blk_cell hGR1.out 2
    have cR3 := blk_cell hGR1.out 3
    have cR4 := blk_cell hGR1.out 4
    have cR5 := blk_cell hGR1.out 5
    have cR6 := blk_cell hGR1.out 6
    simp at cR0 cR1 cR2 cR3 cR4 cR5 cR6
    go_wp2_with fail
    refine (areAddrs_one w1.heap.size r.goal _ (blk_cell (heap_newG w1 (.cells #[.int .i64 r.goal] 2)) 0)).mono ?_
    rintro _ v9 ⟨rfl, hv9⟩
    rw [hv9]
    clear hv9 v9
    clear lR cR0 cR1 cR2 cR3 cR4 cR5 cR6
    have hGA2 := hidS (heap_newG w1 (.cells #[.int .i64 r.goal] 2))
    have nA := blk_lt hGR1.out
    have hGR2 := hidS (blk_alloc hGR1.out (.cells #[.int .i64 r.goal] 2))
    have hL2 := hidS (hL1.out.alloc hL1.out.size (.cells #[.int .i64 r.goal] 2))
    clear hL1 hGR1
    generalize w1.alloc (.cells #[.int .i64 r.goal] 2) = w2 at hGR2 hGA2 hL2 ⊢
    have lR := blk_lt hGR2.out
    have cR0 := blk_cell hGR2.out 0
    have cR1 := blk_cell hGR2.out 1
    have cR2 := blk_cell hGR2.out 2
    have cR3 := blk_cell hGR2.out 3
    have cR4 := blk_cell hGR2.out 4
    have cR5 := blk_cell hGR2.out 5
    have cR6 := blk_cell hGR2.out 6
    simp at cR0 cR1 cR2 cR3 cR4 cR5 cR6
    rw [ha]
    go_wp2_with fail
    refine (areWords_any w2.heap.size [r.low, r.high] _ (two_cells w2 r.low r.high 2) (by simp)).mono ?_
    rintro _ v9 ⟨rfl, hv9⟩
    rw [hv9]
    clear hv9 v9
    clear lR cR0 cR1 cR2 cR3 cR4 cR5 cR6
    have hGD3 := hidS (heap_newG w2 (.cells #[.int .i64 r.low, .int .i64 r.high] 2))
    have nD := blk_lt hGR2.out
    have hGR3 := hidS (blk_alloc hGR2.out (.cells #[.int .i64 r.low, .int .i64 r.high] 2))
    have hGA3 := hidS (blk_alloc hGA2.out (.cells #[.int .i64 r.low, .int .i64 r.high] 2))
    have hL3 := hidS (hL2.out.alloc hL2.out.size (.cells #[.int .i64 r.low, .int .i64 r.high] 2))
    clear hL2 hGR2 hGA2
    generalize w2.alloc (.cells #[.int .i64 r.low, .int .i64 r.high] 2) = w3 at hGR3 hGA3 hGD3 hL3 ⊢
    have lR := blk_lt hGR3.out
    have cR0 := blk_cell hGR3.out 0
    have cR1 := blk_cell hGR3.out 1
    have cR2 := blk_cell hGR3.out 2
    have cR3 := blk_cell hGR3.out 3
    have cR4 := blk_cell hGR3.out 4
    have cR5 := blk_cell hGR3.out 5
    have cR6 := blk_cell hGR3.out 6
    simp at cR0 cR1 cR2 cR3 cR4 cR5 cR6
    rw [hw]
    go_wp2_with fail
    go_ret
    exact ⟨by rw [E.out]; rfl, hL3.out⟩
end Go.Proofs.Ytilajoafppplcaa
