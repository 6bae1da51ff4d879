/- Proved here: impl.Invert answers a tuple turned round; all old memory stays (no conditions). -/
import Derived.Test.YtilajoafppplcaaAll20
import Derived.Test.YtilajoafppplcaaAll31
import Derived.Deep.Cut
namespace Go.Proofs.Ytilajoafppplcaa
open Go.ChangeShapes Go.WideShapes Go.ChangeAt Go.RowKit
set_option linter.unusedVariables false

theorem otherEcho_ask (k : Int) (w : World) (h : k = 8) : Calls Try.prog 90 #[.int .i64 k] w fun e w' => e = .returned (.int .i64 0) ∧ w' = w := by
  subst h
  go_enter Try.func90, Try.ntmps90
  go_wp2
  go_ret
  exact ⟨rfl, rfl⟩
theorem otherEcho_reply (k : Int) (w : World) (h : k = 0) : Calls Try.prog 90 #[.int .i64 k] w fun e w' => e = .returned (.int .i64 8) ∧ w' = w := by
  subst h
  go_enter Try.func90, Try.ntmps90
  go_wp2
  go_ret
  exact ⟨rfl, rfl⟩

set_option maxHeartbeats 2000000 in
theorem implInv_any (t : Tp) (w : World) :
    Calls Try.prog 34 #[.agg #[.int .i64 t.proto, .int .i64 t.src, .int .i64 t.sport, .int .i64 t.dst, .int .i64 t.dport, .int .i64 t.kind]] w fun e w' => e = .returned (.agg #[.int .i64 (invAns t).proto, .int .i64 (invAns t).src, .int .i64 (invAns t).sport, .int .i64 (invAns t).dst, .int .i64 (invAns t).dport, .int .i64 (invAns t).kind]) ∧ Below w.heap.size w w' := by
  have HR := hidS (fun W => implTRight_any t W)
  cases hr : rightT t
  · have e : invAns t = zeroTp := if_neg (by rw [hr]; simp)
    rw [e]
    clear e
    have hGP0 : Hid (((w.alloc (.cells #[.int .i64 t.proto, .int .i64 t.src, .int .i64 t.sport, .int .i64 t.dst, .int .i64 t.dport, .int .i64 t.kind] 52)).alloc (.cells #[.int .i64 0, .int .i64 0, .int .i64 0, .int .i64 0, .int .i64 0, .int .i64 0] 52)).heap[w.heap.size]? = some (.cells #[.int .i64 t.proto, .int .i64 t.src, .int .i64 t.sport, .int .i64 t.dst, .int .i64 t.dport, .int .i64 t.kind] 52)) := by
      show _ = _
      have := blk_alloc (heap_newG w (.cells #[.int .i64 t.proto, .int .i64 t.src, .int .i64 t.sport, .int .i64 t.dst, .int .i64 t.dport, .int .i64 t.kind] 52)) (.cells #[.int .i64 0, .int .i64 0, .int .i64 0, .int .i64 0, .int .i64 0, .int .i64 0] 52)
      simpa using this
    have hGR0 : Hid (((w.alloc (.cells #[.int .i64 t.proto, .int .i64 t.src, .int .i64 t.sport, .int .i64 t.dst, .int .i64 t.dport, .int .i64 t.kind] 52)).alloc (.cells #[.int .i64 0, .int .i64 0, .int .i64 0, .int .i64 0, .int .i64 0, .int .i64 0] 52)).heap[w.heap.size + 1]? = some (.cells #[.int .i64 0, .int .i64 0, .int .i64 0, .int .i64 0, .int .i64 0, .int .i64 0] 52)) := by
      show _ = _
      have := heap_newG (w.alloc (.cells #[.int .i64 t.proto, .int .i64 t.src, .int .i64 t.sport, .int .i64 t.dst, .int .i64 t.dport, .int .i64 t.kind] 52)) (.cells #[.int .i64 0, .int .i64 0, .int .i64 0, .int .i64 0, .int .i64 0, .int .i64 0] 52)
      simpa using this
    have hL0 := hidS (((Below.refl w.heap.size w).alloc (Nat.le_refl _) (.cells #[.int .i64 t.proto, .int .i64 t.src, .int .i64 t.sport, .int .i64 t.dst, .int .i64 t.dport, .int .i64 t.kind] 52)).alloc (by simp) (.cells #[.int .i64 0, .int .i64 0, .int .i64 0, .int .i64 0, .int .i64 0, .int .i64 0] 52))
    go_enter Try.func34, Try.ntmps34
    go_wp2_with fail
    refine (HR.out _).mono ?_
    rintro _ w1 ⟨rfl, hb1⟩
    have hGP1 := hidS (blk_later hGP0.out hb1)
    have hGR1 := hidS (blk_later hGR0.out hb1)
    have hL1 := hidS (hL0.out.trans (hb1.mono hL0.out.size))
    clear hb1 hL0 hGP0 hGR0
    rw [hr]
    have kR := blk_cell hGR1.out
    have fR := blk_free hGR1.out
    go_wp2_with fail
    refine bodyPost_ret (v := .agg #[.int .i64 zeroTp.proto, .int .i64 zeroTp.src, .int .i64 zeroTp.sport, .int .i64 zeroTp.dst, .int .i64 zeroTp.dport, .int .i64 zeroTp.kind]) (by simp [results, Try.results34, go_sem, zeroTp, *]) rfl ⟨rfl, ?_⟩
    repeat (refine below_at ?_ (by omega))
    exact hL1.out
  · have e : invAns t = invT t := if_pos hr
    rw [e]
    clear e
    by_cases h1 : t.proto = 1
    · have h1' : (t.proto == 1) = true := beq_iff_eq.2 h1
      rcases right_kind hr h1 with h8 | h0
      · rw [inv_ask h1 h8]
        clear h1
        have hk : Hid (t.kind = 8) := h8
        clear h8
        have hGP0 : Hid (((w.alloc (.cells #[.int .i64 t.proto, .int .i64 t.src, .int .i64 t.sport, .int .i64 t.dst, .int .i64 t.dport, .int .i64 t.kind] 52)).alloc (.cells #[.int .i64 0, .int .i64 0, .int .i64 0, .int .i64 0, .int .i64 0, .int .i64 0] 52)).heap[w.heap.size]? = some (.cells #[.int .i64 t.proto, .int .i64 t.src, .int .i64 t.sport, .int .i64 t.dst, .int .i64 t.dport, .int .i64 t.kind] 52)) := by
          show _ = _
          have := blk_alloc (heap_newG w (.cells #[.int .i64 t.proto, .int .i64 t.src, .int .i64 t.sport, .int .i64 t.dst, .int .i64 t.dport, .int .i64 t.kind] 52)) (.cells #[.int .i64 0, .int .i64 0, .int .i64 0, .int .i64 0, .int .i64 0, .int .i64 0] 52)
          simpa using this
        have hGR0 : Hid (((w.alloc (.cells #[.int .i64 t.proto, .int .i64 t.src, .int .i64 t.sport, .int .i64 t.dst, .int .i64 t.dport, .int .i64 t.kind] 52)).alloc (.cells #[.int .i64 0, .int .i64 0, .int .i64 0, .int .i64 0, .int .i64 0, .int .i64 0] 52)).heap[w.heap.size + 1]? = some (.cells #[.int .i64 0, .int .i64 0, .int .i64 0, .int .i64 0, .int .i64 0, .int .i64 0] 52)) := by
          show _ = _
          have := heap_newG (w.alloc (.cells #[.int .i64 t.proto, .int .i64 t.src, .int .i64 t.sport, .int .i64 t.dst, .int .i64 t.dport, .int .i64 t.kind] 52)) (.cells #[.int .i64 0, .int .i64 0, .int .i64 0, .int .i64 0, .int .i64 0, .int .i64 0] 52)
          simpa using this
        have hL0 := hidS (((Below.refl w.heap.size w).alloc (Nat.le_refl _) (.cells #[.int .i64 t.proto, .int .i64 t.src, .int .i64 t.sport, .int .i64 t.dst, .int .i64 t.dport, .int .i64 t.kind] 52)).alloc (by simp) (.cells #[.int .i64 0, .int .i64 0, .int .i64 0, .int .i64 0, .int .i64 0, .int .i64 0] 52))
        go_enter Try.func34, Try.ntmps34
        go_wp2_with fail
        refine (HR.out _).mono ?_
        rintro _ w1 ⟨rfl, hb1⟩
        have hGP1 := hidS (blk_later hGP0.out hb1)
        have hGR1 := hidS (blk_later hGR0.out hb1)
        have hL1 := hidS (hL0.out.trans (hb1.mono hL0.out.size))
        clear hb1 hL0 hGP0 hGR0
        rw [hr]
        have lP := blk_lt hGP1.out
        have lR := blk_lt hGR1.out
        have cP0 := blk_cell hGP1.out 0
        have cP1 := blk_cell hGP1.out 1
        have cP2 := blk_cell hGP1.out 2
        have cP3 := blk_cell hGP1.out 3
        have cP4 := blk_cell hGP1.out 4
        have cP5 := blk_cell hGP1.out 5
        simp at cP0 cP1 cP2 cP3 cP4 cP5
        have kP := blk_cell hGP1.out
        have fP := blk_free hGP1.out
        go_upto_region 5 with fail
        have hGP2 : Hid (((((w1.setCell ⟨w.heap.size, 1, none⟩ (.int .i64 t.dst)).setCell ⟨w.heap.size, 3, none⟩ (.int .i64 t.src)).setCell ⟨w.heap.size, 2, none⟩ (.int .i64 t.dport)).setCell ⟨w.heap.size, 4, none⟩ (.int .i64 t.sport)).heap[w.heap.size]? = some (.cells #[.int .i64 t.proto, .int .i64 t.dst, .int .i64 t.dport, .int .i64 t.src, .int .i64 t.sport, .int .i64 t.kind] 52)) := by
          have := (blk_set (blk_set (blk_set (blk_set hGP1.out 1 (.int .i64 t.dst)) 3 (.int .i64 t.src)) 2 (.int .i64 t.dport)) 4 (.int .i64 t.sport))
          exact this
        have hGR2 := hidS (blk_other (B := w.heap.size) (blk_other (B := w.heap.size) (blk_other (B := w.heap.size) (blk_other (B := w.heap.size) hGR1.out (by omega) 1 (.int .i64 t.dst)) (by omega) 3 (.int .i64 t.src)) (by omega) 2 (.int .i64 t.dport)) (by omega) 4 (.int .i64 t.sport))
        have hL2 := hidS (below_at (k := 4) (b := w.heap.size) (v := .int .i64 t.sport) (below_at (k := 2) (b := w.heap.size) (v := .int .i64 t.dport) (below_at (k := 3) (b := w.heap.size) (v := .int .i64 t.src) (below_at (k := 1) (b := w.heap.size) (v := .int .i64 t.dst) hL1.out (by omega)) (by omega)) (by omega)) (by omega))
        clear lP lR cP0 cP1 cP2 cP3 cP4 cP5 kP fP
        clear hL1 hGP1 hGR1
        generalize ((((w1.setCell ⟨w.heap.size, 1, none⟩ (.int .i64 t.dst)).setCell ⟨w.heap.size, 3, none⟩ (.int .i64 t.src)).setCell ⟨w.heap.size, 2, none⟩ (.int .i64 t.dport)).setCell ⟨w.heap.size, 4, none⟩ (.int .i64 t.sport)) = w2 at hGP2 hGR2 hL2 ⊢
        have cP0 := blk_cell hGP2.out 0
        have cP1 := blk_cell hGP2.out 1
        have cP2 := blk_cell hGP2.out 2
        have cP3 := blk_cell hGP2.out 3
        have cP4 := blk_cell hGP2.out 4
        have cP5 := blk_cell hGP2.out 5
        simp at cP0 cP1 cP2 cP3 cP4 cP5
        have kP := blk_cell hGP2.out
        have fP := blk_free hGP2.out
        go_wp2_with fail
        refine (otherEcho_ask t.kind _ hk.out).mono ?_
        rintro _ v ⟨rfl, hv⟩
        rw [hv]
        clear hv v
        go_upto_region 7 with fail
        have hGP3 : Hid ((w2.setCell ⟨w.heap.size, 5, none⟩ (.int .i64 0)).heap[w.heap.size]? = some (.cells #[.int .i64 t.proto, .int .i64 t.dst, .int .i64 t.dport, .int .i64 t.src, .int .i64 t.sport, .int .i64 0] 52)) := by
          have := (blk_set hGP2.out 5 (.int .i64 0))
          exact this
        have hGR3 := hidS (blk_other (B := w.heap.size) hGR2.out (by omega) 5 (.int .i64 0))
        have hL3 := hidS (below_at (k := 5) (b := w.heap.size) (v := .int .i64 0) hL2.out (by omega))
        clear cP0 cP1 cP2 cP3 cP4 cP5 kP fP
        clear hL2 hGP2 hGR2
        generalize (w2.setCell ⟨w.heap.size, 5, none⟩ (.int .i64 0)) = w3 at hGP3 hGR3 hL3 ⊢
        have cP0 := blk_cell hGP3.out 0
        have cP1 := blk_cell hGP3.out 1
        have cP2 := blk_cell hGP3.out 2
        have cP3 := blk_cell hGP3.out 3
        have cP4 := blk_cell hGP3.out 4
        have cP5 := blk_cell hGP3.out 5
        simp at cP0 cP1 cP2 cP3 cP4 cP5
        have kR := blk_cell hGR3.out
        have fR := blk_free hGR3.out
        go_wp2_with fail
        refine bodyPost_ret (v := .agg #[.int .i64 t.proto, .int .i64 t.dst, .int .i64 t.dport, .int .i64 t.src, .int .i64 t.sport, .int .i64 0]) (by simp [results, Try.results34, go_sem, *]) rfl ⟨rfl, ?_⟩
        repeat (refine below_at ?_ (by omega))
        exact hL3.out
      · rw [inv_reply h1 h0]
        clear h1
        have hk : Hid (t.kind = 0) := h0
        clear h0
        have hGP0 : Hid (((w.alloc (.cells #[.int .i64 t.proto, .int .i64 t.src, .int .i64 t.sport, .int .i64 t.dst, .int .i64 t.dport, .int .i64 t.kind] 52)).alloc (.cells #[.int .i64 0, .int .i64 0, .int .i64 0, .int .i64 0, .int .i64 0, .int .i64 0] 52)).heap[w.heap.size]? = some (.cells #[.int .i64 t.proto, .int .i64 t.src, .int .i64 t.sport, .int .i64 t.dst, .int .i64 t.dport, .int .i64 t.kind] 52)) := by
          show _ = _
          have := blk_alloc (heap_newG w (.cells #[.int .i64 t.proto, .int .i64 t.src, .int .i64 t.sport, .int .i64 t.dst, .int .i64 t.dport, .int .i64 t.kind] 52)) (.cells #[.int .i64 0, .int .i64 0, .int .i64 0, .int .i64 0, .int .i64 0, .int .i64 0] 52)
          simpa using this
        have hGR0 : Hid (((w.alloc (.cells #[.int .i64 t.proto, .int .i64 t.src, .int .i64 t.sport, .int .i64 t.dst, .int .i64 t.dport, .int .i64 t.kind] 52)).alloc (.cells #[.int .i64 0, .int .i64 0, .int .i64 0, .int .i64 0, .int .i64 0, .int .i64 0] 52)).heap[w.heap.size + 1]? = some (.cells #[.int .i64 0, .int .i64 0, .int .i64 0, .int .i64 0, .int .i64 0, .int .i64 0] 52)) := by
          show _ = _
          have := heap_newG (w.alloc (.cells #[.int .i64 t.proto, .int .i64 t.src, .int .i64 t.sport, .int .i64 t.dst, .int .i64 t.dport, .int .i64 t.kind] 52)) (.cells #[.int .i64 0, .int .i64 0, .int .i64 0, .int .i64 0, .int .i64 0, .int .i64 0] 52)
          simpa using this
        have hL0 := hidS (((Below.refl w.heap.size w).alloc (Nat.le_refl _) (.cells #[.int .i64 t.proto, .int .i64 t.src, .int .i64 t.sport, .int .i64 t.dst, .int .i64 t.dport, .int .i64 t.kind] 52)).alloc (by simp) (.cells #[.int .i64 0, .int .i64 0, .int .i64 0, .int .i64 0, .int .i64 0, .int .i64 0] 52))
        go_enter Try.func34, Try.ntmps34
        go_wp2_with fail
        refine (HR.out _).mono ?_
        rintro _ w1 ⟨rfl, hb1⟩
        have hGP1 := hidS (blk_later hGP0.out hb1)
        have hGR1 := hidS (blk_later hGR0.out hb1)
        have hL1 := hidS (hL0.out.trans (hb1.mono hL0.out.size))
        clear hb1 hL0 hGP0 hGR0
        rw [hr]
        have lP := blk_lt hGP1.out
        have lR := blk_lt hGR1.out
        have cP0 := blk_cell hGP1.out 0
        have cP1 := blk_cell hGP1.out 1
        have cP2 := blk_cell hGP1.out 2
        have cP3 := blk_cell hGP1.out 3
        have cP4 := blk_cell hGP1.out 4
        have cP5 := blk_cell hGP1.out 5
        simp at cP0 cP1 cP2 cP3 cP4 cP5
        have kP := blk_cell hGP1.out
        have fP := blk_free hGP1.out
        go_upto_region 5 with fail
        have hGP2 : Hid (((((w1.setCell ⟨w.heap.size, 1, none⟩ (.int .i64 t.dst)).setCell ⟨w.heap.size, 3, none⟩ (.int .i64 t.src)).setCell ⟨w.heap.size, 2, none⟩ (.int .i64 t.dport)).setCell ⟨w.heap.size, 4, none⟩ (.int .i64 t.sport)).heap[w.heap.size]? = some (.cells #[.int .i64 t.proto, .int .i64 t.dst, .int .i64 t.dport, .int .i64 t.src, .int .i64 t.sport, .int .i64 t.kind] 52)) := by
          have := (blk_set (blk_set (blk_set (blk_set hGP1.out 1 (.int .i64 t.dst)) 3 (.int .i64 t.src)) 2 (.int .i64 t.dport)) 4 (.int .i64 t.sport))
          exact this
        have hGR2 := hidS (blk_other (B := w.heap.size) (blk_other (B := w.heap.size) (blk_other (B := w.heap.size) (blk_other (B := w.heap.size) hGR1.out (by omega) 1 (.int .i64 t.dst)) (by omega) 3 (.int .i64 t.src)) (by omega) 2 (.int .i64 t.dport)) (by omega) 4 (.int .i64 t.sport))
        have hL2 := hidS (below_at (k := 4) (b := w.heap.size) (v := .int .i64 t.sport) (below_at (k := 2) (b := w.heap.size) (v := .int .i64 t.dport) (below_at (k := 3) (b := w.heap.size) (v := .int .i64 t.src) (below_at (k := 1) (b := w.heap.size) (v := .int .i64 t.dst) hL1.out (by omega)) (by omega)) (by omega)) (by omega))
        clear lP lR cP0 cP1 cP2 cP3 cP4 cP5 kP fP
        clear hL1 hGP1 hGR1
        generalize ((((w1.setCell ⟨w.heap.size, 1, none⟩ (.int .i64 t.dst)).setCell ⟨w.heap.size, 3, none⟩ (.int .i64 t.src)).setCell ⟨w.heap.size, 2, none⟩ (.int .i64 t.dport)).setCell ⟨w.heap.size, 4, none⟩ (.int .i64 t.sport)) = w2 at hGP2 hGR2 hL2 ⊢
        have cP0 := blk_cell hGP2.out 0
        have cP1 := blk_cell hGP2.out 1
        have cP2 := blk_cell hGP2.out 2
        have cP3 := blk_cell hGP2.out 3
        have cP4 := blk_cell hGP2.out 4
        have cP5 := blk_cell hGP2.out 5
        simp at cP0 cP1 cP2 cP3 cP4 cP5
        have kP := blk_cell hGP2.out
        have fP := blk_free hGP2.out
        go_wp2_with fail
        refine (otherEcho_reply t.kind _ hk.out).mono ?_
        rintro _ v ⟨rfl, hv⟩
        rw [hv]
        clear hv v
        go_upto_region 7 with fail
        have hGP3 : Hid ((w2.setCell ⟨w.heap.size, 5, none⟩ (.int .i64 8)).heap[w.heap.size]? = some (.cells #[.int .i64 t.proto, .int .i64 t.dst, .int .i64 t.dport, .int .i64 t.src, .int .i64 t.sport, .int .i64 8] 52)) := by
          have := (blk_set hGP2.out 5 (.int .i64 8))
          exact this
        have hGR3 := hidS (blk_other (B := w.heap.size) hGR2.out (by omega) 5 (.int .i64 8))
        have hL3 := hidS (below_at (k := 5) (b := w.heap.size) (v := .int .i64 8) hL2.out (by omega))
        clear cP0 cP1 cP2 cP3 cP4 cP5 kP fP
        clear hL2 hGP2 hGR2
        generalize (w2.setCell ⟨w.heap.size, 5, none⟩ (.int .i64 8)) = w3 at hGP3 hGR3 hL3 ⊢
        have cP0 := blk_cell hGP3.out 0
        have cP1 := blk_cell hGP3.out 1
        have cP2 := blk_cell hGP3.out 2
        have cP3 := blk_cell hGP3.out 3
        have cP4 := blk_cell hGP3.out 4
        have cP5 := blk_cell hGP3.out 5
        simp at cP0 cP1 cP2 cP3 cP4 cP5
        have kR := blk_cell hGR3.out
        have fR := blk_free hGR3.out
        go_wp2_with fail
        refine bodyPost_ret (v := .agg #[.int .i64 t.proto, .int .i64 t.dst, .int .i64 t.dport, .int .i64 t.src, .int .i64 t.sport, .int .i64 8]) (by simp [results, Try.results34, go_sem, *]) rfl ⟨rfl, ?_⟩
        repeat (refine below_at ?_ (by omega))
        exact hL3.out
    · have h1' : (t.proto == 1) = false := beq_eq_false_iff_ne.2 h1
      rw [inv_other h1]
      have hk : Hid (t.kind = 0) := by show _ = _; unfold rightT at hr; rw [if_neg h1] at hr; simp at hr; omega
      clear h1
      have hGP0 : Hid (((w.alloc (.cells #[.int .i64 t.proto, .int .i64 t.src, .int .i64 t.sport, .int .i64 t.dst, .int .i64 t.dport, .int .i64 t.kind] 52)).alloc (.cells #[.int .i64 0, .int .i64 0, .int .i64 0, .int .i64 0, .int .i64 0, .int .i64 0] 52)).heap[w.heap.size]? = some (.cells #[.int .i64 t.proto, .int .i64 t.src, .int .i64 t.sport, .int .i64 t.dst, .int .i64 t.dport, .int .i64 t.kind] 52)) := by
        show _ = _
        have := blk_alloc (heap_newG w (.cells #[.int .i64 t.proto, .int .i64 t.src, .int .i64 t.sport, .int .i64 t.dst, .int .i64 t.dport, .int .i64 t.kind] 52)) (.cells #[.int .i64 0, .int .i64 0, .int .i64 0, .int .i64 0, .int .i64 0, .int .i64 0] 52)
        simpa using this
      have hGR0 : Hid (((w.alloc (.cells #[.int .i64 t.proto, .int .i64 t.src, .int .i64 t.sport, .int .i64 t.dst, .int .i64 t.dport, .int .i64 t.kind] 52)).alloc (.cells #[.int .i64 0, .int .i64 0, .int .i64 0, .int .i64 0, .int .i64 0, .int .i64 0] 52)).heap[w.heap.size + 1]? = some (.cells #[.int .i64 0, .int .i64 0, .int .i64 0, .int .i64 0, .int .i64 0, .int .i64 0] 52)) := by
        show _ = _
        have := heap_newG (w.alloc (.cells #[.int .i64 t.proto, .int .i64 t.src, .int .i64 t.sport, .int .i64 t.dst, .int .i64 t.dport, .int .i64 t.kind] 52)) (.cells #[.int .i64 0, .int .i64 0, .int .i64 0, .int .i64 0, .int .i64 0, .int .i64 0] 52)
        simpa using this
      have hL0 := hidS (((Below.refl w.heap.size w).alloc (Nat.le_refl _) (.cells #[.int .i64 t.proto, .int .i64 t.src, .int .i64 t.sport, .int .i64 t.dst, .int .i64 t.dport, .int .i64 t.kind] 52)).alloc (by simp) (.cells #[.int .i64 0, .int .i64 0, .int .i64 0, .int .i64 0, .int .i64 0, .int .i64 0] 52))
      go_enter Try.func34, Try.ntmps34
      go_wp2_with fail
      refine (HR.out _).mono ?_
      rintro _ w1 ⟨rfl, hb1⟩
      have hGP1 := hidS (blk_later hGP0.out hb1)
      have hGR1 := hidS (blk_later hGR0.out hb1)
      have hL1 := hidS (hL0.out.trans (hb1.mono hL0.out.size))
      clear hb1 hL0 hGP0 hGR0
      rw [hr]
      have lP := blk_lt hGP1.out
      have lR := blk_lt hGR1.out
      have cP0 := blk_cell hGP1.out 0
      have cP1 := blk_cell hGP1.out 1
      have cP2 := blk_cell hGP1.out 2
      have cP3 := blk_cell hGP1.out 3
      have cP4 := blk_cell hGP1.out 4
      have cP5 := blk_cell hGP1.out 5
      simp at cP0 cP1 cP2 cP3 cP4 cP5
      have kP := blk_cell hGP1.out
      have fP := blk_free hGP1.out
      go_upto_region 5 with fail
      have hGP2 : Hid (((((w1.setCell ⟨w.heap.size, 1, none⟩ (.int .i64 t.dst)).setCell ⟨w.heap.size, 3, none⟩ (.int .i64 t.src)).setCell ⟨w.heap.size, 2, none⟩ (.int .i64 t.dport)).setCell ⟨w.heap.size, 4, none⟩ (.int .i64 t.sport)).heap[w.heap.size]? = some (.cells #[.int .i64 t.proto, .int .i64 t.dst, .int .i64 t.dport, .int .i64 t.src, .int .i64 t.sport, .int .i64 t.kind] 52)) := by
        have := (blk_set (blk_set (blk_set (blk_set hGP1.out 1 (.int .i64 t.dst)) 3 (.int .i64 t.src)) 2 (.int .i64 t.dport)) 4 (.int .i64 t.sport))
        exact this
      have hGR2 := hidS (blk_other (B := w.heap.size) (blk_other (B := w.heap.size) (blk_other (B := w.heap.size) (blk_other (B := w.heap.size) hGR1.out (by omega) 1 (.int .i64 t.dst)) (by omega) 3 (.int .i64 t.src)) (by omega) 2 (.int .i64 t.dport)) (by omega) 4 (.int .i64 t.sport))
      have hL2 := hidS (below_at (k := 4) (b := w.heap.size) (v := .int .i64 t.sport) (below_at (k := 2) (b := w.heap.size) (v := .int .i64 t.dport) (below_at (k := 3) (b := w.heap.size) (v := .int .i64 t.src) (below_at (k := 1) (b := w.heap.size) (v := .int .i64 t.dst) hL1.out (by omega)) (by omega)) (by omega)) (by omega))
      clear lP lR cP0 cP1 cP2 cP3 cP4 cP5 kP fP
      clear hL1 hGP1 hGR1
      generalize ((((w1.setCell ⟨w.heap.size, 1, none⟩ (.int .i64 t.dst)).setCell ⟨w.heap.size, 3, none⟩ (.int .i64 t.src)).setCell ⟨w.heap.size, 2, none⟩ (.int .i64 t.dport)).setCell ⟨w.heap.size, 4, none⟩ (.int .i64 t.sport)) = w2 at hGP2 hGR2 hL2 ⊢
      have cP0 := blk_cell hGP2.out 0
      have cP1 := blk_cell hGP2.out 1
      have cP2 := blk_cell hGP2.out 2
      have cP3 := blk_cell hGP2.out 3
      have cP4 := blk_cell hGP2.out 4
      have cP5 := blk_cell hGP2.out 5
      simp at cP0 cP1 cP2 cP3 cP4 cP5
      have kR := blk_cell hGR2.out
      have fR := blk_free hGR2.out
      go_wp2_with fail
      refine bodyPost_ret (v := .agg #[.int .i64 t.proto, .int .i64 t.dst, .int .i64 t.dport, .int .i64 t.src, .int .i64 t.sport, .int .i64 0]) (by simp [results, Try.results34, go_sem, hk.out, *]) rfl ⟨rfl, ?_⟩
      repeat (refine below_at ?_ (by omega))
      exact hL2.out
end Go.Proofs.Ytilajoafppplcaa
