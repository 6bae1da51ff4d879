/- Proved here: impl's look for the first rule: isFor, firstRule's function, firstOf, firstRule; all old memory stays (conditions: right rules that can be read, a right tuple). -/
import Derived.Test.YtilajoafppplcaaAll27
import Derived.Test.YtilajoafppplcaaAll6
import Derived.Test.YtilajoafppplcaaAll17
import Derived.Deep.Cut
namespace Go.Proofs.Ytilajoafppplcaa
open Go.ChangeShapes Go.WideShapes Go.ChangeAt Go.RowKit
set_option linter.unusedVariables false
set_option linter.unusedSimpArgs false
set_option maxRecDepth 100000

set_option maxHeartbeats 4000000 in
theorem isFor_any (r : Rl) (t : Tp) (w : World) :
    Calls Try.prog 118 #[.agg #[.int .i64 r.kind, .int .i64 r.proto, .int .i64 r.net, .int .i64 r.bits, .int .i64 r.goal, .int .i64 r.low, .int .i64 r.high], .agg #[.int .i64 t.proto, .int .i64 t.src, .int .i64 t.sport, .int .i64 t.dst, .int .i64 t.dport, .int .i64 t.kind]] w fun e w' => e = .returned (.bool (isForB r t)) ∧ Below w.heap.size w w' := by
  have hE : Hid (isForB r t = ((r.proto == 0 || r.proto == t.proto) && inNetB (namedA r.kind t) r.net r.bits)) := rfl
  have HI := hidS (fun a W => implInNet_any a r.net r.bits W)
  by_cases h1 : r.kind = 2
  · have hnm : Hid (namedA r.kind t = t.dst) := if_pos h1
    have h1' : (r.kind == 2) = true := by simp [h1]
    clear h1
    cases h2 : (r.proto == 0)
    · cases h3 : (r.proto == t.proto)
      · have E := hidS (hE.out.trans (by rw [h2, h3, Bool.false_or, Bool.false_and]))
        clear hE
        have hGR0 : Hid (((w.alloc (.cells #[.int .i64 r.kind, .int .i64 r.proto, .int .i64 r.net, .int .i64 r.bits, .int .i64 r.goal, .int .i64 r.low, .int .i64 r.high] 64)).alloc (.cells #[.int .i64 t.proto, .int .i64 t.src, .int .i64 t.sport, .int .i64 t.dst, .int .i64 t.dport, .int .i64 t.kind] 52)).heap[w.heap.size]? = some (.cells #[.int .i64 r.kind, .int .i64 r.proto, .int .i64 r.net, .int .i64 r.bits, .int .i64 r.goal, .int .i64 r.low, .int .i64 r.high] 64)) := by
          show _ = _
          have := blk_alloc (heap_newG w (.cells #[.int .i64 r.kind, .int .i64 r.proto, .int .i64 r.net, .int .i64 r.bits, .int .i64 r.goal, .int .i64 r.low, .int .i64 r.high] 64)) (.cells #[.int .i64 t.proto, .int .i64 t.src, .int .i64 t.sport, .int .i64 t.dst, .int .i64 t.dport, .int .i64 t.kind] 52)
          simpa using this
        have hGT0 : Hid (((w.alloc (.cells #[.int .i64 r.kind, .int .i64 r.proto, .int .i64 r.net, .int .i64 r.bits, .int .i64 r.goal, .int .i64 r.low, .int .i64 r.high] 64)).alloc (.cells #[.int .i64 t.proto, .int .i64 t.src, .int .i64 t.sport, .int .i64 t.dst, .int .i64 t.dport, .int .i64 t.kind] 52)).heap[w.heap.size + 1]? = some (.cells #[.int .i64 t.proto, .int .i64 t.src, .int .i64 t.sport, .int .i64 t.dst, .int .i64 t.dport, .int .i64 t.kind] 52)) := by
          show _ = _
          have := heap_newG (w.alloc (.cells #[.int .i64 r.kind, .int .i64 r.proto, .int .i64 r.net, .int .i64 r.bits, .int .i64 r.goal, .int .i64 r.low, .int .i64 r.high] 64)) (.cells #[.int .i64 t.proto, .int .i64 t.src, .int .i64 t.sport, .int .i64 t.dst, .int .i64 t.dport, .int .i64 t.kind] 52)
          simpa using this
        have hL0 := hidS (((Below.refl w.heap.size w).alloc (Nat.le_refl _) (.cells #[.int .i64 r.kind, .int .i64 r.proto, .int .i64 r.net, .int .i64 r.bits, .int .i64 r.goal, .int .i64 r.low, .int .i64 r.high] 64)).alloc (by simp) (.cells #[.int .i64 t.proto, .int .i64 t.src, .int .i64 t.sport, .int .i64 t.dst, .int .i64 t.dport, .int .i64 t.kind] 52))
        go_enter Try.func118, Try.ntmps118
        go_wp2_with fail
        go_ret
        exact ⟨by rw [E.out]; rfl, hL0.out⟩
      · have E := hidS (hE.out.trans (by rw [h2, h3, hnm.out, Bool.false_or, Bool.true_and]))
        clear hE
        have hGR0 : Hid (((w.alloc (.cells #[.int .i64 r.kind, .int .i64 r.proto, .int .i64 r.net, .int .i64 r.bits, .int .i64 r.goal, .int .i64 r.low, .int .i64 r.high] 64)).alloc (.cells #[.int .i64 t.proto, .int .i64 t.src, .int .i64 t.sport, .int .i64 t.dst, .int .i64 t.dport, .int .i64 t.kind] 52)).heap[w.heap.size]? = some (.cells #[.int .i64 r.kind, .int .i64 r.proto, .int .i64 r.net, .int .i64 r.bits, .int .i64 r.goal, .int .i64 r.low, .int .i64 r.high] 64)) := by
          show _ = _
          have := blk_alloc (heap_newG w (.cells #[.int .i64 r.kind, .int .i64 r.proto, .int .i64 r.net, .int .i64 r.bits, .int .i64 r.goal, .int .i64 r.low, .int .i64 r.high] 64)) (.cells #[.int .i64 t.proto, .int .i64 t.src, .int .i64 t.sport, .int .i64 t.dst, .int .i64 t.dport, .int .i64 t.kind] 52)
          simpa using this
        have hGT0 : Hid (((w.alloc (.cells #[.int .i64 r.kind, .int .i64 r.proto, .int .i64 r.net, .int .i64 r.bits, .int .i64 r.goal, .int .i64 r.low, .int .i64 r.high] 64)).alloc (.cells #[.int .i64 t.proto, .int .i64 t.src, .int .i64 t.sport, .int .i64 t.dst, .int .i64 t.dport, .int .i64 t.kind] 52)).heap[w.heap.size + 1]? = some (.cells #[.int .i64 t.proto, .int .i64 t.src, .int .i64 t.sport, .int .i64 t.dst, .int .i64 t.dport, .int .i64 t.kind] 52)) := by
          show _ = _
          have := heap_newG (w.alloc (.cells #[.int .i64 r.kind, .int .i64 r.proto, .int .i64 r.net, .int .i64 r.bits, .int .i64 r.goal, .int .i64 r.low, .int .i64 r.high] 64)) (.cells #[.int .i64 t.proto, .int .i64 t.src, .int .i64 t.sport, .int .i64 t.dst, .int .i64 t.dport, .int .i64 t.kind] 52)
          simpa using this
        have hL0 := hidS (((Below.refl w.heap.size w).alloc (Nat.le_refl _) (.cells #[.int .i64 r.kind, .int .i64 r.proto, .int .i64 r.net, .int .i64 r.bits, .int .i64 r.goal, .int .i64 r.low, .int .i64 r.high] 64)).alloc (by simp) (.cells #[.int .i64 t.proto, .int .i64 t.src, .int .i64 t.sport, .int .i64 t.dst, .int .i64 t.dport, .int .i64 t.kind] 52))
        go_enter Try.func118, Try.ntmps118
        go_wp2_with fail
        refine (HI.out _ _).mono ?_
        rintro _ w1 ⟨rfl, hb1⟩
        have hGR1 := hidS (blk_later hGR0.out hb1)
        have hGT1 := hidS (blk_later hGT0.out hb1)
        have hL1 := hidS (hL0.out.trans (hb1.mono hL0.out.size))
        clear hb1 hL0 hGR0 hGT0
        go_wp2_with fail
        go_ret
        exact ⟨by rw [E.out]; rfl, hL1.out⟩
    · have E := hidS (hE.out.trans (by rw [h2, hnm.out, Bool.true_or, Bool.true_and]))
      clear hE
      have hGR0 : Hid (((w.alloc (.cells #[.int .i64 r.kind, .int .i64 r.proto, .int .i64 r.net, .int .i64 r.bits, .int .i64 r.goal, .int .i64 r.low, .int .i64 r.high] 64)).alloc (.cells #[.int .i64 t.proto, .int .i64 t.src, .int .i64 t.sport, .int .i64 t.dst, .int .i64 t.dport, .int .i64 t.kind] 52)).heap[w.heap.size]? = some (.cells #[.int .i64 r.kind, .int .i64 r.proto, .int .i64 r.net, .int .i64 r.bits, .int .i64 r.goal, .int .i64 r.low, .int .i64 r.high] 64)) := by
        show _ = _
        have := blk_alloc (heap_newG w (.cells #[.int .i64 r.kind, .int .i64 r.proto, .int .i64 r.net, .int .i64 r.bits, .int .i64 r.goal, .int .i64 r.low, .int .i64 r.high] 64)) (.cells #[.int .i64 t.proto, .int .i64 t.src, .int .i64 t.sport, .int .i64 t.dst, .int .i64 t.dport, .int .i64 t.kind] 52)
        simpa using this
      have hGT0 : Hid (((w.alloc (.cells #[.int .i64 r.kind, .int .i64 r.proto, .int .i64 r.net, .int .i64 r.bits, .int .i64 r.goal, .int .i64 r.low, .int .i64 r.high] 64)).alloc (.cells #[.int .i64 t.proto, .int .i64 t.src, .int .i64 t.sport, .int .i64 t.dst, .int .i64 t.dport, .int .i64 t.kind] 52)).heap[w.heap.size + 1]? = some (.cells #[.int .i64 t.proto, .int .i64 t.src, .int .i64 t.sport, .int .i64 t.dst, .int .i64 t.dport, .int .i64 t.kind] 52)) := by
        show _ = _
        have := heap_newG (w.alloc (.cells #[.int .i64 r.kind, .int .i64 r.proto, .int .i64 r.net, .int .i64 r.bits, .int .i64 r.goal, .int .i64 r.low, .int .i64 r.high] 64)) (.cells #[.int .i64 t.proto, .int .i64 t.src, .int .i64 t.sport, .int .i64 t.dst, .int .i64 t.dport, .int .i64 t.kind] 52)
        simpa using this
      have hL0 := hidS (((Below.refl w.heap.size w).alloc (Nat.le_refl _) (.cells #[.int .i64 r.kind, .int .i64 r.proto, .int .i64 r.net, .int .i64 r.bits, .int .i64 r.goal, .int .i64 r.low, .int .i64 r.high] 64)).alloc (by simp) (.cells #[.int .i64 t.proto, .int .i64 t.src, .int .i64 t.sport, .int .i64 t.dst, .int .i64 t.dport, .int .i64 t.kind] 52))
      go_enter Try.func118, Try.ntmps118
      go_wp2_with fail
      refine (HI.out _ _).mono ?_
      rintro _ w1 ⟨rfl, hb1⟩
      have hGR1 := hidS (blk_later hGR0.out hb1)
      have hGT1 := hidS (blk_later hGT0.out hb1)
      have hL1 := hidS (hL0.out.trans (hb1.mono hL0.out.size))
      clear hb1 hL0 hGR0 hGT0
      go_wp2_with fail
      go_ret
      exact ⟨by rw [E.out]; rfl, hL1.out⟩
  · have hnm : Hid (namedA r.kind t = t.src) := if_neg h1
    have h1' : (r.kind == 2) = false := by simp [h1]
    clear h1
    cases h2 : (r.proto == 0)
    · cases h3 : (r.proto == t.proto)
      · have E := hidS (hE.out.trans (by rw [h2, h3, Bool.false_or, Bool.false_and]))
        clear hE
        have hGR0 : Hid (((w.alloc (.cells #[.int .i64 r.kind, .int .i64 r.proto, .int .i64 r.net, .int .i64 r.bits, .int .i64 r.goal, .int .i64 r.low, .int .i64 r.high] 64)).alloc (.cells #[.int .i64 t.proto, .int .i64 t.src, .int .i64 t.sport, .int .i64 t.dst, .int .i64 t.dport, .int .i64 t.kind] 52)).heap[w.heap.size]? = some (.cells #[.int .i64 r.kind, .int .i64 r.proto, .int .i64 r.net, .int .i64 r.bits, .int .i64 r.goal, .int .i64 r.low, .int .i64 r.high] 64)) := by
          show _ = _
          have := blk_alloc (heap_newG w (.cells #[.int .i64 r.kind, .int .i64 r.proto, .int .i64 r.net, .int .i64 r.bits, .int .i64 r.goal, .int .i64 r.low, .int .i64 r.high] 64)) (.cells #[.int .i64 t.proto, .int .i64 t.src, .int .i64 t.sport, .int .i64 t.dst, .int .i64 t.dport, .int .i64 t.kind] 52)
          simpa using this
        have hGT0 : Hid (((w.alloc (.cells #[.int .i64 r.kind, .int .i64 r.proto, .int .i64 r.net, .int .i64 r.bits, .int .i64 r.goal, .int .i64 r.low, .int .i64 r.high] 64)).alloc (.cells #[.int .i64 t.proto, .int .i64 t.src, .int .i64 t.sport, .int .i64 t.dst, .int .i64 t.dport, .int .i64 t.kind] 52)).heap[w.heap.size + 1]? = some (.cells #[.int .i64 t.proto, .int .i64 t.src, .int .i64 t.sport, .int .i64 t.dst, .int .i64 t.dport, .int .i64 t.kind] 52)) := by
          show _ = _
          have := heap_newG (w.alloc (.cells #[.int .i64 r.kind, .int .i64 r.proto, .int .i64 r.net, .int .i64 r.bits, .int .i64 r.goal, .int .i64 r.low, .int .i64 r.high] 64)) (.cells #[.int .i64 t.proto, .int .i64 t.src, .int .i64 t.sport, .int .i64 t.dst, .int .i64 t.dport, .int .i64 t.kind] 52)
          simpa using this
        have hL0 := hidS (((Below.refl w.heap.size w).alloc (Nat.le_refl _) (.cells #[.int .i64 r.kind, .int .i64 r.proto, .int .i64 r.net, .int .i64 r.bits, .int .i64 r.goal, .int .i64 r.low, .int .i64 r.high] 64)).alloc (by simp) (.cells #[.int .i64 t.proto, .int .i64 t.src, .int .i64 t.sport, .int .i64 t.dst, .int .i64 t.dport, .int .i64 t.kind] 52))
        go_enter Try.func118, Try.ntmps118
        go_wp2_with fail
        go_ret
        exact ⟨by rw [E.out]; rfl, hL0.out⟩
      · have E := hidS (hE.out.trans (by rw [h2, h3, hnm.out, Bool.false_or, Bool.true_and]))
        clear hE
        have hGR0 : Hid (((w.alloc (.cells #[.int .i64 r.kind, .int .i64 r.proto, .int .i64 r.net, .int .i64 r.bits, .int .i64 r.goal, .int .i64 r.low, .int .i64 r.high] 64)).alloc (.cells #[.int .i64 t.proto, .int .i64 t.src, .int .i64 t.sport, .int .i64 t.dst, .int .i64 t.dport, .int .i64 t.kind] 52)).heap[w.heap.size]? = some (.cells #[.int .i64 r.kind, .int .i64 r.proto, .int .i64 r.net, .int .i64 r.bits, .int .i64 r.goal, .int .i64 r.low, .int .i64 r.high] 64)) := by
          show _ = _
          have := blk_alloc (heap_newG w (.cells #[.int .i64 r.kind, .int .i64 r.proto, .int .i64 r.net, .int .i64 r.bits, .int .i64 r.goal, .int .i64 r.low, .int .i64 r.high] 64)) (.cells #[.int .i64 t.proto, .int .i64 t.src, .int .i64 t.sport, .int .i64 t.dst, .int .i64 t.dport, .int .i64 t.kind] 52)
          simpa using this
        have hGT0 : Hid (((w.alloc (.cells #[.int .i64 r.kind, .int .i64 r.proto, .int .i64 r.net, .int .i64 r.bits, .int .i64 r.goal, .int .i64 r.low, .int .i64 r.high] 64)).alloc (.cells #[.int .i64 t.proto, .int .i64 t.src, .int .i64 t.sport, .int .i64 t.dst, .int .i64 t.dport, .int .i64 t.kind] 52)).heap[w.heap.size + 1]? = some (.cells #[.int .i64 t.proto, .int .i64 t.src, .int .i64 t.sport, .int .i64 t.dst, .int .i64 t.dport, .int .i64 t.kind] 52)) := by
          show _ = _
          have := heap_newG (w.alloc (.cells #[.int .i64 r.kind, .int .i64 r.proto, .int .i64 r.net, .int .i64 r.bits, .int .i64 r.goal, .int .i64 r.low, .int .i64 r.high] 64)) (.cells #[.int .i64 t.proto, .int .i64 t.src, .int .i64 t.sport, .int .i64 t.dst, .int .i64 t.dport, .int .i64 t.kind] 52)
          simpa using this
        have hL0 := hidS (((Below.refl w.heap.size w).alloc (Nat.le_refl _) (.cells #[.int .i64 r.kind, .int .i64 r.proto, .int .i64 r.net, .int .i64 r.bits, .int .i64 r.goal, .int .i64 r.low, .int .i64 r.high] 64)).alloc (by simp) (.cells #[.int .i64 t.proto, .int .i64 t.src, .int .i64 t.sport, .int .i64 t.dst, .int .i64 t.dport, .int .i64 t.kind] 52))
        go_enter Try.func118, Try.ntmps118
        go_wp2_with fail
        refine (HI.out _ _).mono ?_
        rintro _ w1 ⟨rfl, hb1⟩
        have hGR1 := hidS (blk_later hGR0.out hb1)
        have hGT1 := hidS (blk_later hGT0.out hb1)
        have hL1 := hidS (hL0.out.trans (hb1.mono hL0.out.size))
        clear hb1 hL0 hGR0 hGT0
        go_wp2_with fail
        go_ret
        exact ⟨by rw [E.out]; rfl, hL1.out⟩
    · have E := hidS (hE.out.trans (by rw [h2, hnm.out, Bool.true_or, Bool.true_and]))
      clear hE
      have hGR0 : Hid (((w.alloc (.cells #[.int .i64 r.kind, .int .i64 r.proto, .int .i64 r.net, .int .i64 r.bits, .int .i64 r.goal, .int .i64 r.low, .int .i64 r.high] 64)).alloc (.cells #[.int .i64 t.proto, .int .i64 t.src, .int .i64 t.sport, .int .i64 t.dst, .int .i64 t.dport, .int .i64 t.kind] 52)).heap[w.heap.size]? = some (.cells #[.int .i64 r.kind, .int .i64 r.proto, .int .i64 r.net, .int .i64 r.bits, .int .i64 r.goal, .int .i64 r.low, .int .i64 r.high] 64)) := by
        show _ = _
        have := blk_alloc (heap_newG w (.cells #[.int .i64 r.kind, .int .i64 r.proto, .int .i64 r.net, .int .i64 r.bits, .int .i64 r.goal, .int .i64 r.low, .int .i64 r.high] 64)) (.cells #[.int .i64 t.proto, .int .i64 t.src, .int .i64 t.sport, .int .i64 t.dst, .int .i64 t.dport, .int .i64 t.kind] 52)
        simpa using this
      have hGT0 : Hid (((w.alloc (.cells #[.int .i64 r.kind, .int .i64 r.proto, .int .i64 r.net, .int .i64 r.bits, .int .i64 r.goal, .int .i64 r.low, .int .i64 r.high] 64)).alloc (.cells #[.int .i64 t.proto, .int .i64 t.src, .int .i64 t.sport, .int .i64 t.dst, .int .i64 t.dport, .int .i64 t.kind] 52)).heap[w.heap.size + 1]? = some (.cells #[.int .i64 t.proto, .int .i64 t.src, .int .i64 t.sport, .int .i64 t.dst, .int .i64 t.dport, .int .i64 t.kind] 52)) := by
        show _ = _
        have := heap_newG (w.alloc (.cells #[.int .i64 r.kind, .int .i64 r.proto, .int .i64 r.net, .int .i64 r.bits, .int .i64 r.goal, .int .i64 r.low, .int .i64 r.high] 64)) (.cells #[.int .i64 t.proto, .int .i64 t.src, .int .i64 t.sport, .int .i64 t.dst, .int .i64 t.dport, .int .i64 t.kind] 52)
        simpa using this
      have hL0 := hidS (((Below.refl w.heap.size w).alloc (Nat.le_refl _) (.cells #[.int .i64 r.kind, .int .i64 r.proto, .int .i64 r.net, .int .i64 r.bits, .int .i64 r.goal, .int .i64 r.low, .int .i64 r.high] 64)).alloc (by simp) (.cells #[.int .i64 t.proto, .int .i64 t.src, .int .i64 t.sport, .int .i64 t.dst, .int .i64 t.dport, .int .i64 t.kind] 52))
      go_enter Try.func118, Try.ntmps118
      go_wp2_with fail
      refine (HI.out _ _).mono ?_
      rintro _ w1 ⟨rfl, hb1⟩
      have hGR1 := hidS (blk_later hGR0.out hb1)
      have hGT1 := hidS (blk_later hGT0.out hb1)
      have hL1 := hidS (hL0.out.trans (hb1.mono hL0.out.size))
      clear hb1 hL0 hGR0 hGT0
      go_wp2_with fail
      go_ret
      exact ⟨by rw [E.out]; rfl, hL1.out⟩
set_option maxHeartbeats 4000000 in
theorem firstFn_any (r : Rl) (kind : Int) (t : Tp) (kb tb : Nat) (w : World) (hk : w.heap[kb]? = some (.cells #[.int .i64 kind] 2)) (ht : w.heap[tb]? = some (.cells #[.int .i64 t.proto, .int .i64 t.src, .int .i64 t.sport, .int .i64 t.dst, .int .i64 t.dport, .int .i64 t.kind] 52)) (hr : rightR r = true) (hrt : rightT t = true) :
    Calls Try.prog 117 #[.agg #[.int .i64 r.kind, .int .i64 r.proto, .int .i64 r.net, .int .i64 r.bits, .int .i64 r.goal, .int .i64 r.low, .int .i64 r.high], .pointer (some ⟨kb, 0, none⟩), .pointer (some ⟨tb, 0, none⟩)] w fun e w' => e = .returned (.bool (forR r kind t)) ∧ Below w.heap.size w w' := by
  have hE : Hid (forR r kind t = (r.kind == kind && isForB r t)) := for_is hr hrt
  have HI := hidS (fun W => isFor_any r t W)
  have HK := hidS (blk_alloc hk (.cells #[.int .i64 r.kind, .int .i64 r.proto, .int .i64 r.net, .int .i64 r.bits, .int .i64 r.goal, .int .i64 r.low, .int .i64 r.high] 64))
  have HT := hidS (blk_alloc ht (.cells #[.int .i64 r.kind, .int .i64 r.proto, .int .i64 r.net, .int .i64 r.bits, .int .i64 r.goal, .int .i64 r.low, .int .i64 r.high] 64))
  clear hk ht hr hrt
  have ck := blk_cell HK.out 0
  simp at ck
  have ct0 := blk_cell HT.out 0
  have ct1 := blk_cell HT.out 1
  have ct2 := blk_cell HT.out 2
  have ct3 := blk_cell HT.out 3
  have ct4 := blk_cell HT.out 4
  have ct5 := blk_cell HT.out 5
  simp at ct0 ct1 ct2 ct3 ct4 ct5
  cases h1 : (r.kind == kind)
  · have E : Hid (forR r kind t = false) := hE.out.trans (by rw [h1]; rfl)
    clear hE
    have hGR0 : Hid ((w.alloc (.cells #[.int .i64 r.kind, .int .i64 r.proto, .int .i64 r.net, .int .i64 r.bits, .int .i64 r.goal, .int .i64 r.low, .int .i64 r.high] 64)).heap[w.heap.size]? = some (.cells #[.int .i64 r.kind, .int .i64 r.proto, .int .i64 r.net, .int .i64 r.bits, .int .i64 r.goal, .int .i64 r.low, .int .i64 r.high] 64)) := by
      show _ = _
      have := heap_newG w (.cells #[.int .i64 r.kind, .int .i64 r.proto, .int .i64 r.net, .int .i64 r.bits, .int .i64 r.goal, .int .i64 r.low, .int .i64 r.high] 64)
      simpa using this
    have hL0 := hidS ((Below.refl w.heap.size w).alloc (Nat.le_refl _) (.cells #[.int .i64 r.kind, .int .i64 r.proto, .int .i64 r.net, .int .i64 r.bits, .int .i64 r.goal, .int .i64 r.low, .int .i64 r.high] 64))
    go_enter Try.func117, Try.ntmps117
    go_wp2_with fail
    go_ret
    exact ⟨by rw [E.out]; rfl, hL0.out⟩
  · have E : Hid (forR r kind t = isForB r t) := hE.out.trans (by rw [h1, Bool.true_and])
    have h1' : (r.kind == kind) = true := h1
    clear hE
    have hGR0 : Hid ((w.alloc (.cells #[.int .i64 r.kind, .int .i64 r.proto, .int .i64 r.net, .int .i64 r.bits, .int .i64 r.goal, .int .i64 r.low, .int .i64 r.high] 64)).heap[w.heap.size]? = some (.cells #[.int .i64 r.kind, .int .i64 r.proto, .int .i64 r.net, .int .i64 r.bits, .int .i64 r.goal, .int .i64 r.low, .int .i64 r.high] 64)) := by
      show _ = _
      have := heap_newG w (.cells #[.int .i64 r.kind, .int .i64 r.proto, .int .i64 r.net, .int .i64 r.bits, .int .i64 r.goal, .int .i64 r.low, .int .i64 r.high] 64)
      simpa using this
    have hL0 := hidS ((Below.refl w.heap.size w).alloc (Nat.le_refl _) (.cells #[.int .i64 r.kind, .int .i64 r.proto, .int .i64 r.net, .int .i64 r.bits, .int .i64 r.goal, .int .i64 r.low, .int .i64 r.high] 64))
    go_enter Try.func117, Try.ntmps117
    go_wp2_with fail
    refine (HI.out _).mono ?_
    rintro _ w1 ⟨rfl, hb1⟩
    have hL1 := hidS (hL0.out.trans (hb1.mono hL0.out.size))
    clear hb1 hL0 ck ct0 ct1 ct2 ct3 ct4 ct5
    go_wp2_with fail
    go_ret
    exact ⟨by rw [E.out]; rfl, hL1.out⟩
set_option maxHeartbeats 4000000 in
theorem firstOf_any (a : Option Addr) (cap : Nat) (l : List Rl) (kind : Int) (t : Tp) (kb tb : Nat) (w : World) (hR : RowZ a (flatRule l) w) (hz : l.length ≤ 1048576) (hr : allR l = true) (ht : rightT t = true) (hk : w.heap[kb]? = some (.cells #[.int .i64 kind] 2)) (htb : w.heap[tb]? = some (.cells #[.int .i64 t.proto, .int .i64 t.src, .int .i64 t.sport, .int .i64 t.dst, .int .i64 t.dport, .int .i64 t.kind] 52)) :
    Calls Try.prog 116 #[.slice a l.length cap, .func (.func 117) #[] #[.pointer (some ⟨kb, 0, none⟩), .pointer (some ⟨tb, 0, none⟩)]] w fun e w' => e = .returned (.tuple #[.agg #[.int .i64 (foundR l kind t).kind, .int .i64 (foundR l kind t).proto, .int .i64 (foundR l kind t).net, .int .i64 (foundR l kind t).bits, .int .i64 (foundR l kind t).goal, .int .i64 (foundR l kind t).low, .int .i64 (foundR l kind t).high], .bool (hasR l kind t)]) ∧ Below w.heap.size w w' := by
  have HR := hidS hR
  have HA := hidS hr
  have HTR := hidS ht
  have HKB := hidS hk
  have HTB := hidS htb
  clear hR hr hk htb ht
  have hGO0 : Hid ((w.alloc (.cells #[.int .i64 0, .int .i64 0, .int .i64 0, .int .i64 0, .int .i64 0, .int .i64 0, .int .i64 0] 64)).heap[w.heap.size]? = some (.cells #[.int .i64 0, .int .i64 0, .int .i64 0, .int .i64 0, .int .i64 0, .int .i64 0, .int .i64 0] 64)) := by
    show _ = _
    have := heap_newG w (.cells #[.int .i64 0, .int .i64 0, .int .i64 0, .int .i64 0, .int .i64 0, .int .i64 0, .int .i64 0] 64)
    simpa using this
  have hL0 := hidS ((Below.refl w.heap.size w).alloc (Nat.le_refl _) (.cells #[.int .i64 0, .int .i64 0, .int .i64 0, .int .i64 0, .int .i64 0, .int .i64 0, .int .i64 0] 64))
  go_enter Try.func116, Try.ntmps116
  go_wp2_with fail
  generalize (w.alloc (.cells #[.int .i64 0, .int .i64 0, .int .i64 0, .int .i64 0, .int .i64 0, .int .i64 0, .int .i64 0] 64)) = w0 at hGO0 hL0 ⊢
  go_loopw [11] (fun i wr => ∃ k : Nat, i = .int .i64 (k : Int) ∧ k ≤ l.length ∧ Hid (∀ r ∈ l.take k, forR r kind t = false) ∧ Hid (wr.heap[w.heap.size]? = some (.cells #[.int .i64 0, .int .i64 0, .int .i64 0, .int .i64 0, .int .i64 0, .int .i64 0, .int .i64 0] 64)) ∧ Below w.heap.size w wr) (fun i _ => (l.length - (intOf i).toNat))
  case atStart => exact ⟨0, rfl, Nat.zero_le _, (by show ∀ r ∈ List.take 0 l, _; simp), hGO0, hL0.out⟩
  case round =>
    clear hGO0 hL0
    obtain ⟨k, rfl, hk, hF, hGO5, hb5⟩ := hrel
    obtain ⟨w5, hwr⟩ : ∃ x, x = wr := ⟨_, rfl⟩
    subst hwr
    have hL5 := hidS hb5
    clear hb5
    by_cases hlt : k < l.length
    · skip
      have hlt' : (k : Int) < (l.length : Int) := by omega
      obtain ⟨b, o, rfl, hbl, c0, c1, c2, c3, c4, c5, c6⟩ := (HR.out.later hL5.out).rule hlt
      have HS := hidS (allR_get hlt HA.out)
      have HF1 := hidS (fun q => first_here hlt hF.out q)
      have HF0 := hidS (fun q => take_more hlt hF.out q)
      generalize l.getD k zeroRl = s at *
      have HC := hidS (fun W (h : Below w.heap.size w W) => firstFn_any s kind t kb tb W (blk_later HKB.out h) (blk_later HTB.out h) HS.out HTR.out)
      go_upto_region 4 with fail
      clear c0 c1 c2 c3 c4 c5 c6
      have hGX6 := hidS (heap_newG w5 (.cells #[.int .i64 s.kind, .int .i64 s.proto, .int .i64 s.net, .int .i64 s.bits, .int .i64 s.goal, .int .i64 s.low, .int .i64 s.high] 64))
      have nX := blk_lt hGO5.out
      have hGO6 := hidS (blk_alloc hGO5.out (.cells #[.int .i64 s.kind, .int .i64 s.proto, .int .i64 s.net, .int .i64 s.bits, .int .i64 s.goal, .int .i64 s.low, .int .i64 s.high] 64))
      have hL6 := hidS (hL5.out.alloc hL5.out.size (.cells #[.int .i64 s.kind, .int .i64 s.proto, .int .i64 s.net, .int .i64 s.bits, .int .i64 s.goal, .int .i64 s.low, .int .i64 s.high] 64))
      clear hL5 hGO5
      generalize w5.alloc (.cells #[.int .i64 s.kind, .int .i64 s.proto, .int .i64 s.net, .int .i64 s.bits, .int .i64 s.goal, .int .i64 s.low, .int .i64 s.high] 64) = w6 at hGO6 hGX6 hL6 ⊢
      have cX0 := blk_cell hGX6.out 0
      have cX1 := blk_cell hGX6.out 1
      have cX2 := blk_cell hGX6.out 2
      have cX3 := blk_cell hGX6.out 3
      have cX4 := blk_cell hGX6.out 4
      have cX5 := blk_cell hGX6.out 5
      have cX6 := blk_cell hGX6.out 6
      simp at cX0 cX1 cX2 cX3 cX4 cX5 cX6
      go_wp2_with fail
      refine (HC.out _ hL6.out).mono ?_
      rintro _ w7 ⟨rfl, hb7⟩
      clear cX0 cX1 cX2 cX3 cX4 cX5 cX6
      have hGO7 := hidS (blk_later hGO6.out hb7)
      have hGX7 := hidS (blk_later hGX6.out hb7)
      have hL7 := hidS (hL6.out.trans (hb7.mono hL6.out.size))
      clear hb7 hGO6 hGX6 hL6
      cases hf : forR s kind t
      · have HN2 := hidS (HF0.out hf)
        clear HF0 HF1 hF
        go_wp2_with fail
        go_roundw
        case rel => exact ⟨k + 1, by simp, by omega, HN2, hGO7, hL7.out⟩
        case measure => simp [intOf]; omega
      · have E12 := hidS (HF1.out hf)
        clear HF1 HF0 hF
        have cX0 := blk_cell hGX7.out 0
        have cX1 := blk_cell hGX7.out 1
        have cX2 := blk_cell hGX7.out 2
        have cX3 := blk_cell hGX7.out 3
        have cX4 := blk_cell hGX7.out 4
        have cX5 := blk_cell hGX7.out 5
        have cX6 := blk_cell hGX7.out 6
        simp at cX0 cX1 cX2 cX3 cX4 cX5 cX6
        have kO := blk_cell hGO7.out
        have fO := blk_free hGO7.out
        go_wp2_with fail
        refine bodyPost_ret (v := .tuple #[.agg #[.int .i64 s.kind, .int .i64 s.proto, .int .i64 s.net, .int .i64 s.bits, .int .i64 s.goal, .int .i64 s.low, .int .i64 s.high], .bool true]) (by simp [results, Try.results116, go_sem, *]) rfl ⟨by rw [E12.out.1, E12.out.2], ?_⟩
        repeat (refine below_at ?_ (by omega))
        exact hL7.out
    · have hge : ¬ (k : Int) < (l.length : Int) := by omega
      obtain rfl : k = l.length := by omega
      have E12 := hidS (first_end hF.out)
      clear hF hlt hk
      go_upto_region 8 with fail
      have hGQ6 := hidS (heap_newG w5 (.cells #[.int .i64 0, .int .i64 0, .int .i64 0, .int .i64 0, .int .i64 0, .int .i64 0, .int .i64 0] 64))
      have nQ := blk_lt hGO5.out
      have hGO6 := hidS (blk_alloc hGO5.out (.cells #[.int .i64 0, .int .i64 0, .int .i64 0, .int .i64 0, .int .i64 0, .int .i64 0, .int .i64 0] 64))
      have hL6 := hidS (hL5.out.alloc hL5.out.size (.cells #[.int .i64 0, .int .i64 0, .int .i64 0, .int .i64 0, .int .i64 0, .int .i64 0, .int .i64 0] 64))
      clear hL5 hGO5
      generalize w5.alloc (.cells #[.int .i64 0, .int .i64 0, .int .i64 0, .int .i64 0, .int .i64 0, .int .i64 0, .int .i64 0] 64) = w6 at hGO6 hGQ6 hL6 ⊢
      have cQ0 := blk_cell hGQ6.out 0
      have cQ1 := blk_cell hGQ6.out 1
      have cQ2 := blk_cell hGQ6.out 2
      have cQ3 := blk_cell hGQ6.out 3
      have cQ4 := blk_cell hGQ6.out 4
      have cQ5 := blk_cell hGQ6.out 5
      have cQ6 := blk_cell hGQ6.out 6
      simp at cQ0 cQ1 cQ2 cQ3 cQ4 cQ5 cQ6
      have kO := blk_cell hGO6.out
      have fO := blk_free hGO6.out
      go_wp2_with fail
      refine bodyPost_ret (v := .tuple #[.agg #[.int .i64 zeroRl.kind, .int .i64 zeroRl.proto, .int .i64 zeroRl.net, .int .i64 zeroRl.bits, .int .i64 zeroRl.goal, .int .i64 zeroRl.low, .int .i64 zeroRl.high], .bool false]) (by simp [results, Try.results116, go_sem, zeroRl, *]) rfl ⟨by rw [E12.out.1, E12.out.2], ?_⟩
      repeat (refine below_at ?_ (by omega))
      exact hL6.out
set_option maxHeartbeats 4000000 in
theorem firstRule_any (a : Option Addr) (cap : Nat) (l : List Rl) (kind : Int) (t : Tp) (w : World) (hR : RowZ a (flatRule l) w) (hz : l.length ≤ 1048576) (hr : allR l = true) (ht : rightT t = true) :
    Calls Try.prog 81 #[.slice a l.length cap, .int .i64 kind, .agg #[.int .i64 t.proto, .int .i64 t.src, .int .i64 t.sport, .int .i64 t.dst, .int .i64 t.dport, .int .i64 t.kind]] w fun e w' => e = .returned (.tuple #[.agg #[.int .i64 (foundR l kind t).kind, .int .i64 (foundR l kind t).proto, .int .i64 (foundR l kind t).net, .int .i64 (foundR l kind t).bits, .int .i64 (foundR l kind t).goal, .int .i64 (foundR l kind t).low, .int .i64 (foundR l kind t).high], .bool (hasR l kind t)]) ∧ Below w.heap.size w w' := by
  have HR := hidS hR
  have HC := hidS (fun kb tb W (h : Below w.heap.size w W) (h1 : W.heap[kb]? = some (.cells #[.int .i64 kind] 2)) (h2 : W.heap[tb]? = some (.cells #[.int .i64 t.proto, .int .i64 t.src, .int .i64 t.sport, .int .i64 t.dst, .int .i64 t.dport, .int .i64 t.kind] 52)) => firstOf_any a cap l kind t kb tb W (HR.out.later h) hz hr ht h1 h2)
  clear hR hr ht
  have hGK0 : Hid ((((w.alloc (.cells #[.int .i64 kind] 2)).alloc (.cells #[.int .i64 t.proto, .int .i64 t.src, .int .i64 t.sport, .int .i64 t.dst, .int .i64 t.dport, .int .i64 t.kind] 52)).alloc (.cells #[.int .i64 0, .int .i64 0, .int .i64 0, .int .i64 0, .int .i64 0, .int .i64 0, .int .i64 0] 64)).heap[w.heap.size]? = some (.cells #[.int .i64 kind] 2)) := by
    show _ = _
    have := blk_alloc (blk_alloc (heap_newG w (.cells #[.int .i64 kind] 2)) (.cells #[.int .i64 t.proto, .int .i64 t.src, .int .i64 t.sport, .int .i64 t.dst, .int .i64 t.dport, .int .i64 t.kind] 52)) (.cells #[.int .i64 0, .int .i64 0, .int .i64 0, .int .i64 0, .int .i64 0, .int .i64 0, .int .i64 0] 64)
    simpa using this
  have hGT0 : Hid ((((w.alloc (.cells #[.int .i64 kind] 2)).alloc (.cells #[.int .i64 t.proto, .int .i64 t.src, .int .i64 t.sport, .int .i64 t.dst, .int .i64 t.dport, .int .i64 t.kind] 52)).alloc (.cells #[.int .i64 0, .int .i64 0, .int .i64 0, .int .i64 0, .int .i64 0, .int .i64 0, .int .i64 0] 64)).heap[w.heap.size + 1]? = some (.cells #[.int .i64 t.proto, .int .i64 t.src, .int .i64 t.sport, .int .i64 t.dst, .int .i64 t.dport, .int .i64 t.kind] 52)) := by
    show _ = _
    have := blk_alloc (heap_newG (w.alloc (.cells #[.int .i64 kind] 2)) (.cells #[.int .i64 t.proto, .int .i64 t.src, .int .i64 t.sport, .int .i64 t.dst, .int .i64 t.dport, .int .i64 t.kind] 52)) (.cells #[.int .i64 0, .int .i64 0, .int .i64 0, .int .i64 0, .int .i64 0, .int .i64 0, .int .i64 0] 64)
    simpa using this
  have hGO0 : Hid ((((w.alloc (.cells #[.int .i64 kind] 2)).alloc (.cells #[.int .i64 t.proto, .int .i64 t.src, .int .i64 t.sport, .int .i64 t.dst, .int .i64 t.dport, .int .i64 t.kind] 52)).alloc (.cells #[.int .i64 0, .int .i64 0, .int .i64 0, .int .i64 0, .int .i64 0, .int .i64 0, .int .i64 0] 64)).heap[w.heap.size + 2]? = some (.cells #[.int .i64 0, .int .i64 0, .int .i64 0, .int .i64 0, .int .i64 0, .int .i64 0, .int .i64 0] 64)) := by
    show _ = _
    have := heap_newG ((w.alloc (.cells #[.int .i64 kind] 2)).alloc (.cells #[.int .i64 t.proto, .int .i64 t.src, .int .i64 t.sport, .int .i64 t.dst, .int .i64 t.dport, .int .i64 t.kind] 52)) (.cells #[.int .i64 0, .int .i64 0, .int .i64 0, .int .i64 0, .int .i64 0, .int .i64 0, .int .i64 0] 64)
    simpa using this
  have hL0 := hidS ((((Below.refl w.heap.size w).alloc (Nat.le_refl _) (.cells #[.int .i64 kind] 2)).alloc (by simp) (.cells #[.int .i64 t.proto, .int .i64 t.src, .int .i64 t.sport, .int .i64 t.dst, .int .i64 t.dport, .int .i64 t.kind] 52)).alloc (by simp; omega) (.cells #[.int .i64 0, .int .i64 0, .int .i64 0, .int .i64 0, .int .i64 0, .int .i64 0, .int .i64 0] 64))
  go_enter Try.func81, Try.ntmps81
  go_wp2_with fail
  refine (HC.out _ _ _ hL0.out hGK0.out hGT0.out).mono ?_
  rintro _ w1 ⟨rfl, hb1⟩
  have hGO1 := hidS (blk_later hGO0.out hb1)
  have hL1 := hidS (hL0.out.trans (hb1.mono hL0.out.size))
  clear hb1 hL0 hGO0 hGK0 hGT0 HC HR
  have kO := blk_cell hGO1.out
  have fO := blk_free hGO1.out
  go_wp2_with fail
  refine bodyPost_ret (v := .tuple #[.agg #[.int .i64 (foundR l kind t).kind, .int .i64 (foundR l kind t).proto, .int .i64 (foundR l kind t).net, .int .i64 (foundR l kind t).bits, .int .i64 (foundR l kind t).goal, .int .i64 (foundR l kind t).low, .int .i64 (foundR l kind t).high], .bool (hasR l kind t)]) (by simp [results, Try.results81, go_sem, *]) rfl ⟨rfl, ?_⟩
  repeat (refine below_at ?_ (by omega))
  exact hL1.out
end Go.Proofs.Ytilajoafppplcaa
