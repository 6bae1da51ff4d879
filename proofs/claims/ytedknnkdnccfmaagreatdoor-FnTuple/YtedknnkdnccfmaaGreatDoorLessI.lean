/- Proved here: impl.TupleLess answers whether a tuple is ahead of another one; all old memory stays (no conditions). -/
import Derived.Test.YtedknnkdnccfmaaGreatDoorTakeI
import Derived.Test.YtedknnkdnccfmaaGreatDoorAll30
import Derived.Test.YtedknnkdnccfmaaGreatDoorAll29
import Derived.Test.YtedknnkdnccfmaaGreatDoorAll18
namespace Go.Proofs.YtedknnkdnccfmaaGreatDoor
open Go.ChangeShapes Go.WideShapes Go.ChangeAt Go.RowKit
open Go.Maps (Keyed)
set_option linter.unusedVariables false
set_option maxRecDepth 100000

/-- what is known while the map is made and filled, in whatever order -/
def MapC (w2 : World) (a b : Tp) (L : Nat → Prop) (v : Nat → Value) (W : World) : Prop :=
  Below w2.heap.size w2 W ∧ (¬ L 0 → W.heap.size = w2.heap.size) ∧
  (L 0 → v 0 = .map (some w2.heap.size) ∧ ∃ n D, n ≤ 2 ∧ (¬ L 3 → n ≤ 1) ∧ (¬ L 6 → n ≤ 1) ∧ (¬ L 3 → ¬ L 6 → n = 0) ∧ W.ownsMap Tryz.prog 40 (unitElem (H := Unit)) w2.heap.size n D ∧ (L 3 → Maps.has D (klT a) = true) ∧ (L 6 → Maps.has D (klT b) = true)) ∧
  (L 1 → v 1 = .agg #[.int .i64 a.proto, .int .i64 a.src, .int .i64 a.sport, .int .i64 a.dst, .int .i64 a.dport, .int .i64 a.kind]) ∧ (L 2 → v 2 = .agg #[]) ∧ (L 4 → v 4 = .agg #[.int .i64 b.proto, .int .i64 b.src, .int .i64 b.sport, .int .i64 b.dst, .int .i64 b.dport, .int .i64 b.kind]) ∧ (L 5 → v 5 = .agg #[]) ∧ (L 7 → v 7 = .map (some w2.heap.size)) ∧ (L 8 → v 8 = .map (some w2.heap.size)) ∧ (L 3 ∨ L 6 → L 0)
theorem klT_lit (t : Tp) : WideAt.IsKeyLit (klT t) := by unfold klT; trivial
theorem has_less {a b : Tp} {D : DataW Unit} (hne : klT a ≠ klT b) (h : Maps.has D (klT a) = true) : Maps.has (D.del (if lessT a b = true then klT b else klT a)) (klT a) = lessT a b := by
  cases l : lessT a b
  · rw [if_neg (by decide)]; exact Maps.has_del_same
  · rw [if_pos rfl, Maps.has_del_other hne]; exact h
theorem has_put_keep {D : DataW Unit} (hD : Maps.IsMap D) {k k' : Lit} (hk' : WideAt.IsKeyLit k') (h : Maps.has D k = true) (u : DataW Unit) : Maps.has (D.put k' u) k = true := by
  by_cases e : k = k'
  · subst e; exact Maps.has_put_same hD hk' u
  · rw [Maps.has_put_other e]; exact h

theorem zero_unit (w : World) : (zeroValue 99).run Tryz.prog w = .ok (.agg #[]) w := by kernel_rfl
theorem less_same (a : Tp) : lessT a a = false := by unfold lessT; simp

set_option maxHeartbeats 4000000 in
theorem implLess_any (a b : Tp) (w : World) :
    Calls Tryz.prog 31 #[.agg #[.int .i64 a.proto, .int .i64 a.src, .int .i64 a.sport, .int .i64 a.dst, .int .i64 a.dport, .int .i64 a.kind], .agg #[.int .i64 b.proto, .int .i64 b.src, .int .i64 b.sport, .int .i64 b.dst, .int .i64 b.dport, .int .i64 b.kind]] w fun e w' => e = .returned (.bool (lessAns a b)) ∧ Below w.heap.size w w' := by
  have HA := hidS (fun W => implTRight_any a W)
  have HB := hidS (fun W => implTRight_any b W)
  unfold lessAns
  cases ha : rightT a
  · have hGA0 : Hid (((w.alloc (.cells #[.int .i64 a.proto, .int .i64 a.src, .int .i64 a.sport, .int .i64 a.dst, .int .i64 a.dport, .int .i64 a.kind] 40)).alloc (.cells #[.int .i64 b.proto, .int .i64 b.src, .int .i64 b.sport, .int .i64 b.dst, .int .i64 b.dport, .int .i64 b.kind] 40)).heap[w.heap.size]? = some (.cells #[.int .i64 a.proto, .int .i64 a.src, .int .i64 a.sport, .int .i64 a.dst, .int .i64 a.dport, .int .i64 a.kind] 40)) := by
      show _ = _
      have := blk_alloc (heap_newG w (.cells #[.int .i64 a.proto, .int .i64 a.src, .int .i64 a.sport, .int .i64 a.dst, .int .i64 a.dport, .int .i64 a.kind] 40)) (.cells #[.int .i64 b.proto, .int .i64 b.src, .int .i64 b.sport, .int .i64 b.dst, .int .i64 b.dport, .int .i64 b.kind] 40)
      simpa using this
    have hGB0 : Hid (((w.alloc (.cells #[.int .i64 a.proto, .int .i64 a.src, .int .i64 a.sport, .int .i64 a.dst, .int .i64 a.dport, .int .i64 a.kind] 40)).alloc (.cells #[.int .i64 b.proto, .int .i64 b.src, .int .i64 b.sport, .int .i64 b.dst, .int .i64 b.dport, .int .i64 b.kind] 40)).heap[w.heap.size + 1]? = some (.cells #[.int .i64 b.proto, .int .i64 b.src, .int .i64 b.sport, .int .i64 b.dst, .int .i64 b.dport, .int .i64 b.kind] 40)) := by
      show _ = _
      have := heap_newG (w.alloc (.cells #[.int .i64 a.proto, .int .i64 a.src, .int .i64 a.sport, .int .i64 a.dst, .int .i64 a.dport, .int .i64 a.kind] 40)) (.cells #[.int .i64 b.proto, .int .i64 b.src, .int .i64 b.sport, .int .i64 b.dst, .int .i64 b.dport, .int .i64 b.kind] 40)
      simpa using this
    have hL0 := hidS (((Below.refl w.heap.size w).alloc (Nat.le_refl _) (.cells #[.int .i64 a.proto, .int .i64 a.src, .int .i64 a.sport, .int .i64 a.dst, .int .i64 a.dport, .int .i64 a.kind] 40)).alloc (by simp) (.cells #[.int .i64 b.proto, .int .i64 b.src, .int .i64 b.sport, .int .i64 b.dst, .int .i64 b.dport, .int .i64 b.kind] 40))
    go_enter Tryz.func31, Tryz.ntmps31
    go_wp2_with fail
    refine (HA.out _).mono ?_
    rintro _ w1 ⟨rfl, hb1⟩
    have hGA1 := hidS (blk_later hGA0.out hb1)
    have hGB1 := hidS (blk_later hGB0.out hb1)
    have hL1 := hidS (hL0.out.trans (hb1.mono hL0.out.size))
    clear hb1 hL0 hGA0 hGB0
    rw [ha]
    go_wp2_with fail
    go_ret
    exact ⟨rfl, hL1.out⟩
  cases hb : rightT b
  · have hGA0 : Hid (((w.alloc (.cells #[.int .i64 a.proto, .int .i64 a.src, .int .i64 a.sport, .int .i64 a.dst, .int .i64 a.dport, .int .i64 a.kind] 40)).alloc (.cells #[.int .i64 b.proto, .int .i64 b.src, .int .i64 b.sport, .int .i64 b.dst, .int .i64 b.dport, .int .i64 b.kind] 40)).heap[w.heap.size]? = some (.cells #[.int .i64 a.proto, .int .i64 a.src, .int .i64 a.sport, .int .i64 a.dst, .int .i64 a.dport, .int .i64 a.kind] 40)) := by
      show _ = _
      have := blk_alloc (heap_newG w (.cells #[.int .i64 a.proto, .int .i64 a.src, .int .i64 a.sport, .int .i64 a.dst, .int .i64 a.dport, .int .i64 a.kind] 40)) (.cells #[.int .i64 b.proto, .int .i64 b.src, .int .i64 b.sport, .int .i64 b.dst, .int .i64 b.dport, .int .i64 b.kind] 40)
      simpa using this
    have hGB0 : Hid (((w.alloc (.cells #[.int .i64 a.proto, .int .i64 a.src, .int .i64 a.sport, .int .i64 a.dst, .int .i64 a.dport, .int .i64 a.kind] 40)).alloc (.cells #[.int .i64 b.proto, .int .i64 b.src, .int .i64 b.sport, .int .i64 b.dst, .int .i64 b.dport, .int .i64 b.kind] 40)).heap[w.heap.size + 1]? = some (.cells #[.int .i64 b.proto, .int .i64 b.src, .int .i64 b.sport, .int .i64 b.dst, .int .i64 b.dport, .int .i64 b.kind] 40)) := by
      show _ = _
      have := heap_newG (w.alloc (.cells #[.int .i64 a.proto, .int .i64 a.src, .int .i64 a.sport, .int .i64 a.dst, .int .i64 a.dport, .int .i64 a.kind] 40)) (.cells #[.int .i64 b.proto, .int .i64 b.src, .int .i64 b.sport, .int .i64 b.dst, .int .i64 b.dport, .int .i64 b.kind] 40)
      simpa using this
    have hL0 := hidS (((Below.refl w.heap.size w).alloc (Nat.le_refl _) (.cells #[.int .i64 a.proto, .int .i64 a.src, .int .i64 a.sport, .int .i64 a.dst, .int .i64 a.dport, .int .i64 a.kind] 40)).alloc (by simp) (.cells #[.int .i64 b.proto, .int .i64 b.src, .int .i64 b.sport, .int .i64 b.dst, .int .i64 b.dport, .int .i64 b.kind] 40))
    go_enter Tryz.func31, Tryz.ntmps31
    go_wp2_with fail
    refine (HA.out _).mono ?_
    rintro _ w1 ⟨rfl, hb1⟩
    have hGA1 := hidS (blk_later hGA0.out hb1)
    have hGB1 := hidS (blk_later hGB0.out hb1)
    have hL1 := hidS (hL0.out.trans (hb1.mono hL0.out.size))
    clear hb1 hL0 hGA0 hGB0
    rw [ha]
    have cB0 := blk_cell hGB1.out 0
    have cB1 := blk_cell hGB1.out 1
    have cB2 := blk_cell hGB1.out 2
    have cB3 := blk_cell hGB1.out 3
    have cB4 := blk_cell hGB1.out 4
    have cB5 := blk_cell hGB1.out 5
    simp at cB0 cB1 cB2 cB3 cB4 cB5
    go_wp2_with fail
    refine (HB.out _).mono ?_
    rintro _ w2 ⟨rfl, hb2⟩
    clear cB0 cB1 cB2 cB3 cB4 cB5
    have hGA2 := hidS (blk_later hGA1.out hb2)
    have hGB2 := hidS (blk_later hGB1.out hb2)
    have hL2 := hidS (hL1.out.trans (hb2.mono hL1.out.size))
    clear hb2 hL1 hGA1 hGB1
    rw [hb]
    go_wp2_with fail
    go_ret
    exact ⟨rfl, hL2.out⟩
  · by_cases e : a = b
    · rw [e] at ha HA ⊢
      clear e
      have hls := hidS (less_same b)
      have hGA0 : Hid (((w.alloc (.cells #[.int .i64 b.proto, .int .i64 b.src, .int .i64 b.sport, .int .i64 b.dst, .int .i64 b.dport, .int .i64 b.kind] 40)).alloc (.cells #[.int .i64 b.proto, .int .i64 b.src, .int .i64 b.sport, .int .i64 b.dst, .int .i64 b.dport, .int .i64 b.kind] 40)).heap[w.heap.size]? = some (.cells #[.int .i64 b.proto, .int .i64 b.src, .int .i64 b.sport, .int .i64 b.dst, .int .i64 b.dport, .int .i64 b.kind] 40)) := by
        show _ = _
        have := blk_alloc (heap_newG w (.cells #[.int .i64 b.proto, .int .i64 b.src, .int .i64 b.sport, .int .i64 b.dst, .int .i64 b.dport, .int .i64 b.kind] 40)) (.cells #[.int .i64 b.proto, .int .i64 b.src, .int .i64 b.sport, .int .i64 b.dst, .int .i64 b.dport, .int .i64 b.kind] 40)
        simpa using this
      have hGB0 : Hid (((w.alloc (.cells #[.int .i64 b.proto, .int .i64 b.src, .int .i64 b.sport, .int .i64 b.dst, .int .i64 b.dport, .int .i64 b.kind] 40)).alloc (.cells #[.int .i64 b.proto, .int .i64 b.src, .int .i64 b.sport, .int .i64 b.dst, .int .i64 b.dport, .int .i64 b.kind] 40)).heap[w.heap.size + 1]? = some (.cells #[.int .i64 b.proto, .int .i64 b.src, .int .i64 b.sport, .int .i64 b.dst, .int .i64 b.dport, .int .i64 b.kind] 40)) := by
        show _ = _
        have := heap_newG (w.alloc (.cells #[.int .i64 b.proto, .int .i64 b.src, .int .i64 b.sport, .int .i64 b.dst, .int .i64 b.dport, .int .i64 b.kind] 40)) (.cells #[.int .i64 b.proto, .int .i64 b.src, .int .i64 b.sport, .int .i64 b.dst, .int .i64 b.dport, .int .i64 b.kind] 40)
        simpa using this
      have hL0 := hidS (((Below.refl w.heap.size w).alloc (Nat.le_refl _) (.cells #[.int .i64 b.proto, .int .i64 b.src, .int .i64 b.sport, .int .i64 b.dst, .int .i64 b.dport, .int .i64 b.kind] 40)).alloc (by simp) (.cells #[.int .i64 b.proto, .int .i64 b.src, .int .i64 b.sport, .int .i64 b.dst, .int .i64 b.dport, .int .i64 b.kind] 40))
      go_enter Tryz.func31, Tryz.ntmps31
      go_wp2_with fail
      refine (HA.out _).mono ?_
      rintro _ w1 ⟨rfl, hb1⟩
      have hGA1 := hidS (blk_later hGA0.out hb1)
      have hGB1 := hidS (blk_later hGB0.out hb1)
      have hL1 := hidS (hL0.out.trans (hb1.mono hL0.out.size))
      clear hb1 hL0 hGA0 hGB0
      rw [ha]
      have cB0 := blk_cell hGB1.out 0
      have cB1 := blk_cell hGB1.out 1
      have cB2 := blk_cell hGB1.out 2
      have cB3 := blk_cell hGB1.out 3
      have cB4 := blk_cell hGB1.out 4
      have cB5 := blk_cell hGB1.out 5
      simp at cB0 cB1 cB2 cB3 cB4 cB5
      go_wp2_with fail
      refine (HB.out _).mono ?_
      rintro _ w2 ⟨rfl, hb2⟩
      clear cB0 cB1 cB2 cB3 cB4 cB5
      have hGA2 := hidS (blk_later hGA1.out hb2)
      have hGB2 := hidS (blk_later hGB1.out hb2)
      have hL2 := hidS (hL1.out.trans (hb2.mono hL1.out.size))
      clear hb2 hL1 hGA1 hGB1
      rw [hb]
      have cA0 := blk_cell hGA2.out 0
      have cA1 := blk_cell hGA2.out 1
      have cA2 := blk_cell hGA2.out 2
      have cA3 := blk_cell hGA2.out 3
      have cA4 := blk_cell hGA2.out 4
      have cA5 := blk_cell hGA2.out 5
      simp at cA0 cA1 cA2 cA3 cA4 cA5
      have cB0 := blk_cell hGB2.out 0
      have cB1 := blk_cell hGB2.out 1
      have cB2 := blk_cell hGB2.out 2
      have cB3 := blk_cell hGB2.out 3
      have cB4 := blk_cell hGB2.out 4
      have cB5 := blk_cell hGB2.out 5
      simp at cB0 cB1 cB2 cB3 cB4 cB5
      go_wp2_with fail
      go_ret
      exact ⟨by rw [hls.out]; rfl, hL2.out⟩
    · have ka := hidS (right_key ha)
      have kb := hidS (right_key hb)
      have hE := hidS e
      have hq : ∀ W, (binOp .eql 40 (.agg #[.int .i64 a.proto, .int .i64 a.src, .int .i64 a.sport, .int .i64 a.dst, .int .i64 a.dport, .int .i64 a.kind]) (.agg #[.int .i64 b.proto, .int .i64 b.src, .int .i64 b.sport, .int .i64 b.dst, .int .i64 b.dport, .int .i64 b.kind])).run Tryz.prog W = .ok (.bool false) W := fun W => by rw [eql_tup, show sameT a b = false from by cases hs : sameT a b; rfl; exact absurd (sameT_iff.1 hs) e]
      clear e
      have hGA0 : Hid (((w.alloc (.cells #[.int .i64 a.proto, .int .i64 a.src, .int .i64 a.sport, .int .i64 a.dst, .int .i64 a.dport, .int .i64 a.kind] 40)).alloc (.cells #[.int .i64 b.proto, .int .i64 b.src, .int .i64 b.sport, .int .i64 b.dst, .int .i64 b.dport, .int .i64 b.kind] 40)).heap[w.heap.size]? = some (.cells #[.int .i64 a.proto, .int .i64 a.src, .int .i64 a.sport, .int .i64 a.dst, .int .i64 a.dport, .int .i64 a.kind] 40)) := by
        show _ = _
        have := blk_alloc (heap_newG w (.cells #[.int .i64 a.proto, .int .i64 a.src, .int .i64 a.sport, .int .i64 a.dst, .int .i64 a.dport, .int .i64 a.kind] 40)) (.cells #[.int .i64 b.proto, .int .i64 b.src, .int .i64 b.sport, .int .i64 b.dst, .int .i64 b.dport, .int .i64 b.kind] 40)
        simpa using this
      have hGB0 : Hid (((w.alloc (.cells #[.int .i64 a.proto, .int .i64 a.src, .int .i64 a.sport, .int .i64 a.dst, .int .i64 a.dport, .int .i64 a.kind] 40)).alloc (.cells #[.int .i64 b.proto, .int .i64 b.src, .int .i64 b.sport, .int .i64 b.dst, .int .i64 b.dport, .int .i64 b.kind] 40)).heap[w.heap.size + 1]? = some (.cells #[.int .i64 b.proto, .int .i64 b.src, .int .i64 b.sport, .int .i64 b.dst, .int .i64 b.dport, .int .i64 b.kind] 40)) := by
        show _ = _
        have := heap_newG (w.alloc (.cells #[.int .i64 a.proto, .int .i64 a.src, .int .i64 a.sport, .int .i64 a.dst, .int .i64 a.dport, .int .i64 a.kind] 40)) (.cells #[.int .i64 b.proto, .int .i64 b.src, .int .i64 b.sport, .int .i64 b.dst, .int .i64 b.dport, .int .i64 b.kind] 40)
        simpa using this
      have hL0 := hidS (((Below.refl w.heap.size w).alloc (Nat.le_refl _) (.cells #[.int .i64 a.proto, .int .i64 a.src, .int .i64 a.sport, .int .i64 a.dst, .int .i64 a.dport, .int .i64 a.kind] 40)).alloc (by simp) (.cells #[.int .i64 b.proto, .int .i64 b.src, .int .i64 b.sport, .int .i64 b.dst, .int .i64 b.dport, .int .i64 b.kind] 40))
      go_enter Tryz.func31, Tryz.ntmps31
      go_wp2_with fail
      refine (HA.out _).mono ?_
      rintro _ w1 ⟨rfl, hb1⟩
      have hGA1 := hidS (blk_later hGA0.out hb1)
      have hGB1 := hidS (blk_later hGB0.out hb1)
      have hL1 := hidS (hL0.out.trans (hb1.mono hL0.out.size))
      clear hb1 hL0 hGA0 hGB0
      rw [ha]
      have cB0 := blk_cell hGB1.out 0
      have cB1 := blk_cell hGB1.out 1
      have cB2 := blk_cell hGB1.out 2
      have cB3 := blk_cell hGB1.out 3
      have cB4 := blk_cell hGB1.out 4
      have cB5 := blk_cell hGB1.out 5
      simp at cB0 cB1 cB2 cB3 cB4 cB5
      go_wp2_with fail
      refine (HB.out _).mono ?_
      rintro _ w2 ⟨rfl, hb2⟩
      clear cB0 cB1 cB2 cB3 cB4 cB5
      have hGA2 := hidS (blk_later hGA1.out hb2)
      have hGB2 := hidS (blk_later hGB1.out hb2)
      have hL2 := hidS (hL1.out.trans (hb2.mono hL1.out.size))
      clear hb2 hL1 hGA1 hGB1
      rw [hb]
      have cA0 := blk_cell hGA2.out 0
      have cA1 := blk_cell hGA2.out 1
      have cA2 := blk_cell hGA2.out 2
      have cA3 := blk_cell hGA2.out 3
      have cA4 := blk_cell hGA2.out 4
      have cA5 := blk_cell hGA2.out 5
      simp at cA0 cA1 cA2 cA3 cA4 cA5
      have cB0 := blk_cell hGB2.out 0
      have cB1 := blk_cell hGB2.out 1
      have cB2 := blk_cell hGB2.out 2
      have cB3 := blk_cell hGB2.out 3
      have cB4 := blk_cell hGB2.out 4
      have cB5 := blk_cell hGB2.out 5
      simp at cB0 cB1 cB2 cB3 cB4 cB5
      go_upto_region 3 with fail
      clear cA0 cA1 cA2 cA3 cA4 cA5 cB0 cB1 cB2 cB3 cB4 cB5
      have HGA := hidS (fun W (h : Below w2.heap.size w2 W) => blk_later hGA2.out h)
      have HGB := hidS (fun W (h : Below w2.heap.size w2 W) => blk_later hGB2.out h)
      have hmm := @run_makeMap Tryz.prog
      refine growS (MapC w2 a b) (by kernel_rfl) (by kernel_rfl) ?start ?steps ?fin
      case start =>
        intro L v hno
        exact ⟨(Below.refl _ _).drew, fun _ => rfl, fun h => (hno _ h).elim, fun h => (hno _ h).elim, fun h => (hno _ h).elim, fun h => (hno _ h).elim, fun h => (hno _ h).elim, fun h => (hno _ h).elim, fun h => (hno _ h).elim, fun h => (h.elim (hno _) (hno _)).elim⟩
      case steps =>
        refine ⟨?_, ?_, ?_, ?_, ?_, ?_, ?_, ?_, ?_, trivial⟩
        · refine ⟨rfl, fun L v W ρ hC hn hd kc kf ks ki => ?_⟩
          obtain ⟨hB, hz, hm, h1, h2, h4, h5, h7, h8, h9⟩ := hC
          have hs := hz hn
          simp [execOp, go_sem, hmm]
          simp only [RanS]
          exact ⟨hB.alloc (by omega) _, fun h => (h (.inr rfl)).elim, fun _ => ⟨by simp [hs], 0, .map [], by omega, fun _ => by omega, fun _ => by omega, fun _ _ => rfl, hs ▸ World.ownsMap_made _ _ _ _, fun h => (hn (h9 (.inl (h.resolve_right (by omega))))).elim, fun h => (hn (h9 (.inr (h.resolve_right (by omega))))).elim⟩, fun h => h1 (h.resolve_right (by omega)), fun h => h2 (h.resolve_right (by omega)), fun h => h4 (h.resolve_right (by omega)), fun h => h5 (h.resolve_right (by omega)), fun h => h7 (h.resolve_right (by omega)), fun h => h8 (h.resolve_right (by omega)), fun _ => .inr rfl⟩
        · refine ⟨rfl, fun L v W ρ hC hn hd kc kf ks ki => ?_⟩
          obtain ⟨hB, hz, hm, h1, h2, h4, h5, h7, h8, h9⟩ := hC
          have t2 : ρ (.tmp 2) = .pointer (some ⟨w.heap.size, 0, none⟩) := ki 2 (by decide)
          have hg := HGA.out W hB
          have c0 := blk_cell hg 0
          have c1 := blk_cell hg 1
          have c2 := blk_cell hg 2
          have c3 := blk_cell hg 3
          have c4 := blk_cell hg 4
          have c5 := blk_cell hg 5
          simp at c0 c1 c2 c3 c4 c5
          simp [execOp, go_sem, t2, c0, c1, c2, c3, c4, c5]
          simp only [RanS]
          exact ⟨hB, fun h => hz (fun h0 => h (.inl h0)), fun h => hm (h.resolve_right (by omega)) |> fun ⟨q0, n, D, g1, g2, g3, g4, g5, g6, g7⟩ => ⟨q0, n, D, g1, fun h => g2 (fun x => h (.inl x)), fun h => g3 (fun x => h (.inl x)), fun h h' => g4 (fun x => h (.inl x)) (fun x => h' (.inl x)), g5, fun h => g6 (h.resolve_right (by omega)), fun h => g7 (h.resolve_right (by omega))⟩, fun _ => rfl, fun h => h2 (h.resolve_right (by omega)), fun h => h4 (h.resolve_right (by omega)), fun h => h5 (h.resolve_right (by omega)), fun h => h7 (h.resolve_right (by omega)), fun h => h8 (h.resolve_right (by omega)), fun h => .inl (h9 (h.imp (·.resolve_right (by omega)) (·.resolve_right (by omega))))⟩
        · refine ⟨rfl, fun L v W ρ hC hn hd kc kf ks ki => ?_⟩
          obtain ⟨hB, hz, hm, h1, h2, h4, h5, h7, h8, h9⟩ := hC
          simp [execOp, go_sem]
          simp only [RanS]
          exact ⟨hB, fun h => hz (fun h0 => h (.inl h0)), fun h => hm (h.resolve_right (by omega)) |> fun ⟨q0, n, D, g1, g2, g3, g4, g5, g6, g7⟩ => ⟨q0, n, D, g1, fun h => g2 (fun x => h (.inl x)), fun h => g3 (fun x => h (.inl x)), fun h h' => g4 (fun x => h (.inl x)) (fun x => h' (.inl x)), g5, fun h => g6 (h.resolve_right (by omega)), fun h => g7 (h.resolve_right (by omega))⟩, fun h => h1 (h.resolve_right (by omega)), fun _ => rfl, fun h => h4 (h.resolve_right (by omega)), fun h => h5 (h.resolve_right (by omega)), fun h => h7 (h.resolve_right (by omega)), fun h => h8 (h.resolve_right (by omega)), fun h => .inl (h9 (h.imp (·.resolve_right (by omega)) (·.resolve_right (by omega))))⟩
        · refine ⟨rfl, fun L v W ρ hC hn hd kc kf ks ki => ?_⟩
          obtain ⟨hB, hz, hm, h1, h2, h4, h5, h7, h8, h9⟩ := hC
          have L0 : L 0 := hd _ (Array.mem_of_getElem? (i := 0) rfl) rfl
          have LK : L 1 := hd _ (Array.mem_of_getElem? (i := 1) rfl) rfl
          have LV : L 2 := hd _ (Array.mem_of_getElem? (i := 2) rfl) rfl
          obtain ⟨q0, n, D, g1, g2, g3, g4, g5, g6, g7⟩ := hm L0
          have t21 : ρ (.tmp 21) = .map (some w2.heap.size) := (ks 0 21 (by decide) rfl).trans q0
          have t22 : ρ (.tmp 22) = .agg #[.int .i64 a.proto, .int .i64 a.src, .int .i64 a.sport, .int .i64 a.dst, .int .i64 a.dport, .int .i64 a.kind] := (ks 1 22 (by decide) rfl).trans (h1 LK)
          have t23 : ρ (.tmp 23) = .agg #[] := (ks 2 23 (by decide) rfl).trans (h2 LV)
          obtain ⟨W', hrun, hown, hturn⟩ := g5.store tup_keyed Tryz.underlying100 (by unfold maxLen; omega) ka.out unitElem_mk
          have hD := g5.isMap
          simp [execOp, go_sem, t21, t22, t23, hrun]
          simp only [RanS]
          have n3 := g2 hn
          refine ⟨hB.grown hturn.grown hB.size (fun j hj => by cases hj; exact Nat.le_refl _), fun h => (h (.inl L0)).elim, fun _ => ⟨q0, n + 1, _, by omega, fun h => ?_, fun h => ?_, fun h h' => ?_, hown, fun h => ?_, fun h => ?_⟩, fun h => h1 (h.resolve_right (by omega)), fun h => h2 (h.resolve_right (by omega)), fun h => h4 (h.resolve_right (by omega)), fun h => h5 (h.resolve_right (by omega)), fun h => h7 (h.resolve_right (by omega)), fun h => h8 (h.resolve_right (by omega)), fun _ => .inl L0⟩
          · exact (h (.inr rfl)).elim
          · have := g4 hn (fun x => h (.inl x)); omega
          · exact (h (.inr rfl)).elim
          · exact Maps.has_put_same hD (klT_lit _) _
          · exact has_put_keep hD (klT_lit _) (g7 (h.resolve_right (by omega))) _
        · refine ⟨rfl, fun L v W ρ hC hn hd kc kf ks ki => ?_⟩
          obtain ⟨hB, hz, hm, h1, h2, h4, h5, h7, h8, h9⟩ := hC
          have t3 : ρ (.tmp 3) = .pointer (some ⟨w.heap.size + 1, 0, none⟩) := ki 3 (by decide)
          have hg := HGB.out W hB
          have c0 := blk_cell hg 0
          have c1 := blk_cell hg 1
          have c2 := blk_cell hg 2
          have c3 := blk_cell hg 3
          have c4 := blk_cell hg 4
          have c5 := blk_cell hg 5
          simp at c0 c1 c2 c3 c4 c5
          simp [execOp, go_sem, t3, c0, c1, c2, c3, c4, c5]
          simp only [RanS]
          exact ⟨hB, fun h => hz (fun h0 => h (.inl h0)), fun h => hm (h.resolve_right (by omega)) |> fun ⟨q0, n, D, g1, g2, g3, g4, g5, g6, g7⟩ => ⟨q0, n, D, g1, fun h => g2 (fun x => h (.inl x)), fun h => g3 (fun x => h (.inl x)), fun h h' => g4 (fun x => h (.inl x)) (fun x => h' (.inl x)), g5, fun h => g6 (h.resolve_right (by omega)), fun h => g7 (h.resolve_right (by omega))⟩, fun h => h1 (h.resolve_right (by omega)), fun h => h2 (h.resolve_right (by omega)), fun _ => rfl, fun h => h5 (h.resolve_right (by omega)), fun h => h7 (h.resolve_right (by omega)), fun h => h8 (h.resolve_right (by omega)), fun h => .inl (h9 (h.imp (·.resolve_right (by omega)) (·.resolve_right (by omega))))⟩
        · refine ⟨rfl, fun L v W ρ hC hn hd kc kf ks ki => ?_⟩
          obtain ⟨hB, hz, hm, h1, h2, h4, h5, h7, h8, h9⟩ := hC
          simp [execOp, go_sem]
          simp only [RanS]
          exact ⟨hB, fun h => hz (fun h0 => h (.inl h0)), fun h => hm (h.resolve_right (by omega)) |> fun ⟨q0, n, D, g1, g2, g3, g4, g5, g6, g7⟩ => ⟨q0, n, D, g1, fun h => g2 (fun x => h (.inl x)), fun h => g3 (fun x => h (.inl x)), fun h h' => g4 (fun x => h (.inl x)) (fun x => h' (.inl x)), g5, fun h => g6 (h.resolve_right (by omega)), fun h => g7 (h.resolve_right (by omega))⟩, fun h => h1 (h.resolve_right (by omega)), fun h => h2 (h.resolve_right (by omega)), fun h => h4 (h.resolve_right (by omega)), fun _ => rfl, fun h => h7 (h.resolve_right (by omega)), fun h => h8 (h.resolve_right (by omega)), fun h => .inl (h9 (h.imp (·.resolve_right (by omega)) (·.resolve_right (by omega))))⟩
        · refine ⟨rfl, fun L v W ρ hC hn hd kc kf ks ki => ?_⟩
          obtain ⟨hB, hz, hm, h1, h2, h4, h5, h7, h8, h9⟩ := hC
          have L0 : L 0 := hd _ (Array.mem_of_getElem? (i := 0) rfl) rfl
          have LK : L 4 := hd _ (Array.mem_of_getElem? (i := 1) rfl) rfl
          have LV : L 5 := hd _ (Array.mem_of_getElem? (i := 2) rfl) rfl
          obtain ⟨q0, n, D, g1, g2, g3, g4, g5, g6, g7⟩ := hm L0
          have t21 : ρ (.tmp 21) = .map (some w2.heap.size) := (ks 0 21 (by decide) rfl).trans q0
          have t24 : ρ (.tmp 24) = .agg #[.int .i64 b.proto, .int .i64 b.src, .int .i64 b.sport, .int .i64 b.dst, .int .i64 b.dport, .int .i64 b.kind] := (ks 4 24 (by decide) rfl).trans (h4 LK)
          have t25 : ρ (.tmp 25) = .agg #[] := (ks 5 25 (by decide) rfl).trans (h5 LV)
          obtain ⟨W', hrun, hown, hturn⟩ := g5.store tup_keyed Tryz.underlying100 (by unfold maxLen; omega) kb.out unitElem_mk
          have hD := g5.isMap
          simp [execOp, go_sem, t21, t24, t25, hrun]
          simp only [RanS]
          have n6 := g3 hn
          refine ⟨hB.grown hturn.grown hB.size (fun j hj => by cases hj; exact Nat.le_refl _), fun h => (h (.inl L0)).elim, fun _ => ⟨q0, n + 1, _, by omega, fun h => ?_, fun h => ?_, fun h h' => ?_, hown, fun h => ?_, fun h => ?_⟩, fun h => h1 (h.resolve_right (by omega)), fun h => h2 (h.resolve_right (by omega)), fun h => h4 (h.resolve_right (by omega)), fun h => h5 (h.resolve_right (by omega)), fun h => h7 (h.resolve_right (by omega)), fun h => h8 (h.resolve_right (by omega)), fun _ => .inl L0⟩
          · have := g4 (fun x => h (.inl x)) hn; omega
          · exact (h (.inr rfl)).elim
          · exact (h' (.inr rfl)).elim
          · exact has_put_keep hD (klT_lit _) (g6 (h.resolve_right (by omega))) _
          · exact Maps.has_put_same hD (klT_lit _) _
        · refine ⟨rfl, fun L v W ρ hC hn hd kc kf ks ki => ?_⟩
          obtain ⟨hB, hz, hm, h1, h2, h4, h5, h7, h8, h9⟩ := hC
          have L0 : L 0 := hd _ (Array.mem_of_getElem? (i := 0) rfl) rfl
          have t21 : ρ (.tmp 21) = .map (some w2.heap.size) := (ks 0 21 (by decide) rfl).trans (hm L0).1
          simp [execOp, go_sem, t21]
          simp only [RanS]
          exact ⟨hB, fun h => hz (fun h0 => h (.inl h0)), fun h => hm (h.resolve_right (by omega)) |> fun ⟨q0, n, D, g1, g2, g3, g4, g5, g6, g7⟩ => ⟨q0, n, D, g1, fun h => g2 (fun x => h (.inl x)), fun h => g3 (fun x => h (.inl x)), fun h h' => g4 (fun x => h (.inl x)) (fun x => h' (.inl x)), g5, fun h => g6 (h.resolve_right (by omega)), fun h => g7 (h.resolve_right (by omega))⟩, fun h => h1 (h.resolve_right (by omega)), fun h => h2 (h.resolve_right (by omega)), fun h => h4 (h.resolve_right (by omega)), fun h => h5 (h.resolve_right (by omega)), fun _ => rfl, fun h => h8 (h.resolve_right (by omega)), fun h => .inl (h9 (h.imp (·.resolve_right (by omega)) (·.resolve_right (by omega))))⟩
        · refine ⟨rfl, fun L v W ρ hC hn hd kc kf ks ki => ?_⟩
          obtain ⟨hB, hz, hm, h1, h2, h4, h5, h7, h8, h9⟩ := hC
          have L7 : L 7 := hd _ (Array.mem_of_getElem? (i := 0) rfl) rfl
          have t26 : ρ (.tmp 26) = .map (some w2.heap.size) := (ks 7 26 (by decide) rfl).trans (h7 L7)
          simp [execOp, go_sem, t26]
          simp only [RanS]
          exact ⟨hB, fun h => hz (fun h0 => h (.inl h0)), fun h => hm (h.resolve_right (by omega)) |> fun ⟨q0, n, D, g1, g2, g3, g4, g5, g6, g7⟩ => ⟨q0, n, D, g1, fun h => g2 (fun x => h (.inl x)), fun h => g3 (fun x => h (.inl x)), fun h h' => g4 (fun x => h (.inl x)) (fun x => h' (.inl x)), g5, fun h => g6 (h.resolve_right (by omega)), fun h => g7 (h.resolve_right (by omega))⟩, fun h => h1 (h.resolve_right (by omega)), fun h => h2 (h.resolve_right (by omega)), fun h => h4 (h.resolve_right (by omega)), fun h => h5 (h.resolve_right (by omega)), fun h => h7 (h.resolve_right (by omega)), fun _ => rfl, fun h => .inl (h9 (h.imp (·.resolve_right (by omega)) (·.resolve_right (by omega))))⟩
      case fin =>
        intro L v W hC hall
        obtain ⟨hB, hz, hm, h1, h2, h4, h5, h7, h8, h9⟩ := hC
        obtain ⟨q0, n, D, g1, g2, g3, g4, g5, g6, g7⟩ := hm (hall 0 (by decide))
        have k3 := g6 (hall 3 (by decide))
        have k6 := g7 (hall 6 (by decide))
        have v8 := h8 (hall 8 (by decide))
        clear hz hm h1 h2 h4 h5 h7 h8 h9 g1 g2 g3 g4 g6 g7 hall
        simp [upto, Act.put]
        rw [v8]
        have hGA3 := hidS (HGA.out W hB)
        have hGB3 := hidS (HGB.out W hB)
        have hL3 := hidS (hL2.out.trans (hB.mono hL2.out.size))
        have lM : w.heap.size + 1 < w2.heap.size := blk_lt hGB2.out
        have hTK := hidS (takeBehind_any a b w2.heap.size n D W hE.out g5 ka.out kb.out)
        have hHas := hidS (has_less (klT_ne hE.out ka.out kb.out) k3)
        clear hGA2 hGB2 hL2 HGA HGB g5 hB hmm q0 v8 k3 k6
        have hc := fun k => blk_cell hGA3.out k
        have hd := fun k => blk_cell hGB3.out k
        have cA0 := hc 0
        have cA1 := hc 1
        have cA2 := hc 2
        have cA3 := hc 3
        have cA4 := hc 4
        have cA5 := hc 5
        have cB0 := hd 0
        have cB1 := hd 1
        have cB2 := hd 2
        have cB3 := hd 3
        have cB4 := hd 4
        have cB5 := hd 5
        clear hc hd
        simp at cA0 cA1 cA2 cA3 cA4 cA5 cB0 cB1 cB2 cB3 cB4 cB5
        go_wp2_with fail
        refine hTK.out.mono ?_
        rintro _ w4 ⟨rfl, hg4, hown4⟩
        have hGA4 : w4.heap[w.heap.size]? = _ := (hg4.block _ (blk_lt hGA3.out) (by simp; omega)).trans hGA3.out
        have hL4 := hidS (hL3.out.grown hg4 hL3.out.size (fun j hj => by cases hj; omega))
        generalize D.del (if lessT a b = true then klT b else klT a) = D' at hown4 hHas
        have hL5 := hidS (hL4.out.alloc hL4.out.size (.cells #[] 99))
        clear hTK hg4 hL3 hGA3 hGB3 cA0 cA1 cA2 cA3 cA4 cA5 cB0 cB1 cB2 cB3 cB4 cB5
        have cA0 := blk_cell hGA4 0
        have cA1 := blk_cell hGA4 1
        have cA2 := blk_cell hGA4 2
        have cA3 := blk_cell hGA4 3
        have cA4 := blk_cell hGA4 4
        have cA5 := blk_cell hGA4 5
        simp at cA0 cA1 cA2 cA3 cA4 cA5
        clear hGA4
        go_wp2_with (at_lookup; go_must (refine wpList_lookup_own_unit _ rfl _ _ 100 rfl 40 99 tup_keyed Tryz.underlying100 (zero_unit _) w2.heap.size n _ rfl hown4 _ _ rfl ka.out ?_))
        go_ret
        exact ⟨by rw [← hHas.out]; rfl, hL5.out⟩
end Go.Proofs.YtedknnkdnccfmaaGreatDoor
