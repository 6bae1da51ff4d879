/- Proved here: impl.TupleOf answers a packet's tuple; all old memory stays (condition: the body is a string). -/
import Derived.Test.YtbhemimhmkgfiaaDoorAll7
import Derived.Test.YtbhemimhmkgfiaaDoorRightI2
import Derived.Test.YtbhemimhmkgfiaaDoorIsErr
import Derived.Deep.Cut
namespace Go.Proofs.YtbhemimhmkgfiaaDoor
open Go.ChangeShapes Go.WideShapes Go.ChangeAt Go.RowKit
set_option linter.unusedVariables false

theorem isErrB_any (p : Pk) (w : World) : Calls Tryd.prog 56 #[.agg #[.int .i64 p.src, .int .i64 p.dst, .int .i64 p.proto, .int .i64 p.a, .int .i64 p.b, .int .i64 p.kind, .int .i64 p.flags, .int .i64 p.seq, .int .i64 p.ack, .string p.body]] w fun e w' => e = .returned (.bool (errorB p)) ∧ Below w.heap.size w w' := isError_any p w

set_option maxHeartbeats 1000000 in
theorem implTOf_any (p : Pk) (w : World) (hs : p.body.size ≤ maxLen) :
    Calls Tryd.prog 40 #[.agg #[.int .i64 p.src, .int .i64 p.dst, .int .i64 p.proto, .int .i64 p.a, .int .i64 p.b, .int .i64 p.kind, .int .i64 p.flags, .int .i64 p.seq, .int .i64 p.ack, .string p.body]] w fun e w' => e = .returned (.agg #[.int .i64 (ofAns p).proto, .int .i64 (ofAns p).src, .int .i64 (ofAns p).sport, .int .i64 (ofAns p).dst, .int .i64 (ofAns p).dport, .int .i64 (ofAns p).kind]) ∧ Below w.heap.size w w' := by
  have HR := hidS (fun W => implRight_any p W hs)
  have HE := hidS (fun W => isErrB_any p W)
  cases hr : rightB p
  · have e : ofAns p = zeroTp := if_neg (by rw [hr]; simp)
    rw [e]
    clear e
    have hGP0 : Hid (((w.alloc (.cells #[.int .i64 p.src, .int .i64 p.dst, .int .i64 p.proto, .int .i64 p.a, .int .i64 p.b, .int .i64 p.kind, .int .i64 p.flags, .int .i64 p.seq, .int .i64 p.ack, .string p.body] 29)).alloc (.cells #[.int .i64 0, .int .i64 0, .int .i64 0, .int .i64 0, .int .i64 0, .int .i64 0] 33)).heap[w.heap.size]? = some (.cells #[.int .i64 p.src, .int .i64 p.dst, .int .i64 p.proto, .int .i64 p.a, .int .i64 p.b, .int .i64 p.kind, .int .i64 p.flags, .int .i64 p.seq, .int .i64 p.ack, .string p.body] 29)) := by
      show _ = _
      have := blk_alloc (heap_newG w (.cells #[.int .i64 p.src, .int .i64 p.dst, .int .i64 p.proto, .int .i64 p.a, .int .i64 p.b, .int .i64 p.kind, .int .i64 p.flags, .int .i64 p.seq, .int .i64 p.ack, .string p.body] 29)) (.cells #[.int .i64 0, .int .i64 0, .int .i64 0, .int .i64 0, .int .i64 0, .int .i64 0] 33)
      simpa using this
    have hGR0 : Hid (((w.alloc (.cells #[.int .i64 p.src, .int .i64 p.dst, .int .i64 p.proto, .int .i64 p.a, .int .i64 p.b, .int .i64 p.kind, .int .i64 p.flags, .int .i64 p.seq, .int .i64 p.ack, .string p.body] 29)).alloc (.cells #[.int .i64 0, .int .i64 0, .int .i64 0, .int .i64 0, .int .i64 0, .int .i64 0] 33)).heap[w.heap.size + 1]? = some (.cells #[.int .i64 0, .int .i64 0, .int .i64 0, .int .i64 0, .int .i64 0, .int .i64 0] 33)) := by
      show _ = _
      have := heap_newG (w.alloc (.cells #[.int .i64 p.src, .int .i64 p.dst, .int .i64 p.proto, .int .i64 p.a, .int .i64 p.b, .int .i64 p.kind, .int .i64 p.flags, .int .i64 p.seq, .int .i64 p.ack, .string p.body] 29)) (.cells #[.int .i64 0, .int .i64 0, .int .i64 0, .int .i64 0, .int .i64 0, .int .i64 0] 33)
      simpa using this
    have hL0 := hidS (((Below.refl w.heap.size w).alloc (Nat.le_refl _) (.cells #[.int .i64 p.src, .int .i64 p.dst, .int .i64 p.proto, .int .i64 p.a, .int .i64 p.b, .int .i64 p.kind, .int .i64 p.flags, .int .i64 p.seq, .int .i64 p.ack, .string p.body] 29)).alloc (by simp) (.cells #[.int .i64 0, .int .i64 0, .int .i64 0, .int .i64 0, .int .i64 0, .int .i64 0] 33))
    go_enter Tryd.func40, Tryd.ntmps40
    go_wp2_with fail
    refine (HR.out _).mono ?_
    rintro _ w1 ⟨rfl, hb1⟩
    have hGP1 := hidS (blk_later hGP0.out hb1)
    have hGR1 := hidS (blk_later hGR0.out hb1)
    have hL1 := hidS (hL0.out.trans (hb1.mono hL0.out.size))
    clear hb1 hL0 hGP0 hGR0
    rw [hr]
    have kR := blk_cell hGR1.out
    have fR := blk_free hGR1.out
    go_wp2_with fail
    refine bodyPost_ret (v := .agg #[.int .i64 zeroTp.proto, .int .i64 zeroTp.src, .int .i64 zeroTp.sport, .int .i64 zeroTp.dst, .int .i64 zeroTp.dport, .int .i64 zeroTp.kind]) (by simp [results, Tryd.results40, go_sem, zeroTp, *]) rfl ⟨rfl, ?_⟩
    repeat (refine below_at ?_ (by omega))
    exact hL1.out
  cases he : errorB p
  · by_cases h1 : p.proto = 1
    · have e : ofAns p = ⟨p.proto, p.src, p.a, p.dst, p.a, p.kind⟩ := by rw [show ofAns p = ofP p from if_pos (by rw [hr, he]; rfl)]; unfold ofP; rw [if_pos h1]
      rw [e]
      have h1' : (p.proto == 1) = true := beq_iff_eq.2 h1
      clear e h1
      have hGP0 : Hid (((w.alloc (.cells #[.int .i64 p.src, .int .i64 p.dst, .int .i64 p.proto, .int .i64 p.a, .int .i64 p.b, .int .i64 p.kind, .int .i64 p.flags, .int .i64 p.seq, .int .i64 p.ack, .string p.body] 29)).alloc (.cells #[.int .i64 0, .int .i64 0, .int .i64 0, .int .i64 0, .int .i64 0, .int .i64 0] 33)).heap[w.heap.size]? = some (.cells #[.int .i64 p.src, .int .i64 p.dst, .int .i64 p.proto, .int .i64 p.a, .int .i64 p.b, .int .i64 p.kind, .int .i64 p.flags, .int .i64 p.seq, .int .i64 p.ack, .string p.body] 29)) := by
        show _ = _
        have := blk_alloc (heap_newG w (.cells #[.int .i64 p.src, .int .i64 p.dst, .int .i64 p.proto, .int .i64 p.a, .int .i64 p.b, .int .i64 p.kind, .int .i64 p.flags, .int .i64 p.seq, .int .i64 p.ack, .string p.body] 29)) (.cells #[.int .i64 0, .int .i64 0, .int .i64 0, .int .i64 0, .int .i64 0, .int .i64 0] 33)
        simpa using this
      have hGR0 : Hid (((w.alloc (.cells #[.int .i64 p.src, .int .i64 p.dst, .int .i64 p.proto, .int .i64 p.a, .int .i64 p.b, .int .i64 p.kind, .int .i64 p.flags, .int .i64 p.seq, .int .i64 p.ack, .string p.body] 29)).alloc (.cells #[.int .i64 0, .int .i64 0, .int .i64 0, .int .i64 0, .int .i64 0, .int .i64 0] 33)).heap[w.heap.size + 1]? = some (.cells #[.int .i64 0, .int .i64 0, .int .i64 0, .int .i64 0, .int .i64 0, .int .i64 0] 33)) := by
        show _ = _
        have := heap_newG (w.alloc (.cells #[.int .i64 p.src, .int .i64 p.dst, .int .i64 p.proto, .int .i64 p.a, .int .i64 p.b, .int .i64 p.kind, .int .i64 p.flags, .int .i64 p.seq, .int .i64 p.ack, .string p.body] 29)) (.cells #[.int .i64 0, .int .i64 0, .int .i64 0, .int .i64 0, .int .i64 0, .int .i64 0] 33)
        simpa using this
      have hL0 := hidS (((Below.refl w.heap.size w).alloc (Nat.le_refl _) (.cells #[.int .i64 p.src, .int .i64 p.dst, .int .i64 p.proto, .int .i64 p.a, .int .i64 p.b, .int .i64 p.kind, .int .i64 p.flags, .int .i64 p.seq, .int .i64 p.ack, .string p.body] 29)).alloc (by simp) (.cells #[.int .i64 0, .int .i64 0, .int .i64 0, .int .i64 0, .int .i64 0, .int .i64 0] 33))
      go_enter Tryd.func40, Tryd.ntmps40
      go_wp2_with fail
      refine (HR.out _).mono ?_
      rintro _ w1 ⟨rfl, hb1⟩
      have hGP1 := hidS (blk_later hGP0.out hb1)
      have hGR1 := hidS (blk_later hGR0.out hb1)
      have hL1 := hidS (hL0.out.trans (hb1.mono hL0.out.size))
      clear hb1 hL0 hGP0 hGR0
      rw [hr]
      have cP0 := blk_cell hGP1.out 0
      have cP1 := blk_cell hGP1.out 1
      have cP2 := blk_cell hGP1.out 2
      have cP3 := blk_cell hGP1.out 3
      have cP4 := blk_cell hGP1.out 4
      have cP5 := blk_cell hGP1.out 5
      have cP6 := blk_cell hGP1.out 6
      have cP7 := blk_cell hGP1.out 7
      have cP8 := blk_cell hGP1.out 8
      have cP9 := blk_cell hGP1.out 9
      simp at cP0 cP1 cP2 cP3 cP4 cP5 cP6 cP7 cP8 cP9
      go_wp2_with fail
      refine (HE.out _).mono ?_
      rintro _ w2 ⟨rfl, hb2⟩
      clear cP0 cP1 cP2 cP3 cP4 cP5 cP6 cP7 cP8 cP9
      have hGP2 := hidS (blk_later hGP1.out hb2)
      have hGR2 := hidS (blk_later hGR1.out hb2)
      have hL2 := hidS (hL1.out.trans (hb2.mono hL1.out.size))
      clear hb2 hL1 hGP1 hGR1
      rw [he]
      have lP := blk_lt hGP2.out
      have lR := blk_lt hGR2.out
      have cP0 := blk_cell hGP2.out 0
      have cP1 := blk_cell hGP2.out 1
      have cP2 := blk_cell hGP2.out 2
      have cP3 := blk_cell hGP2.out 3
      have cP4 := blk_cell hGP2.out 4
      have cP5 := blk_cell hGP2.out 5
      have cP6 := blk_cell hGP2.out 6
      have cP7 := blk_cell hGP2.out 7
      have cP8 := blk_cell hGP2.out 8
      have cP9 := blk_cell hGP2.out 9
      simp at cP0 cP1 cP2 cP3 cP4 cP5 cP6 cP7 cP8 cP9
      go_upto_region 6 with fail
      have hGT3 := hidS (heap_newG w2 (.cells #[.int .i64 p.proto, .int .i64 p.src, .int .i64 p.a, .int .i64 p.dst, .int .i64 p.a, .int .i64 p.kind] 33))
      have hGP3 := hidS (blk_alloc hGP2.out (.cells #[.int .i64 p.proto, .int .i64 p.src, .int .i64 p.a, .int .i64 p.dst, .int .i64 p.a, .int .i64 p.kind] 33))
      have hGR3 := hidS (blk_alloc hGR2.out (.cells #[.int .i64 p.proto, .int .i64 p.src, .int .i64 p.a, .int .i64 p.dst, .int .i64 p.a, .int .i64 p.kind] 33))
      have hL3 := hidS (hL2.out.alloc hL2.out.size (.cells #[.int .i64 p.proto, .int .i64 p.src, .int .i64 p.a, .int .i64 p.dst, .int .i64 p.a, .int .i64 p.kind] 33))
      clear lP lR cP0 cP1 cP2 cP3 cP4 cP5 cP6 cP7 cP8 cP9
      clear hL2 hGP2 hGR2
      generalize w2.alloc (.cells #[.int .i64 p.proto, .int .i64 p.src, .int .i64 p.a, .int .i64 p.dst, .int .i64 p.a, .int .i64 p.kind] 33) = w3 at hGP3 hGR3 hGT3 hL3 ⊢
      have cT0 := blk_cell hGT3.out 0
      have cT1 := blk_cell hGT3.out 1
      have cT2 := blk_cell hGT3.out 2
      have cT3 := blk_cell hGT3.out 3
      have cT4 := blk_cell hGT3.out 4
      have cT5 := blk_cell hGT3.out 5
      simp at cT0 cT1 cT2 cT3 cT4 cT5
      have kR := blk_cell hGR3.out
      have fR := blk_free hGR3.out
      go_wp2_with fail
      refine bodyPost_ret (v := .agg #[.int .i64 p.proto, .int .i64 p.src, .int .i64 p.a, .int .i64 p.dst, .int .i64 p.a, .int .i64 p.kind]) (by simp [results, Tryd.results40, go_sem, *]) rfl ⟨rfl, ?_⟩
      repeat (refine below_at ?_ (by omega))
      exact hL3.out
    · have e : ofAns p = ⟨p.proto, p.src, p.a, p.dst, p.b, p.kind⟩ := by rw [show ofAns p = ofP p from if_pos (by rw [hr, he]; rfl)]; unfold ofP; rw [if_neg h1]
      rw [e]
      have h1' : (p.proto == 1) = false := beq_eq_false_iff_ne.2 h1
      clear e h1
      have hGP0 : Hid (((w.alloc (.cells #[.int .i64 p.src, .int .i64 p.dst, .int .i64 p.proto, .int .i64 p.a, .int .i64 p.b, .int .i64 p.kind, .int .i64 p.flags, .int .i64 p.seq, .int .i64 p.ack, .string p.body] 29)).alloc (.cells #[.int .i64 0, .int .i64 0, .int .i64 0, .int .i64 0, .int .i64 0, .int .i64 0] 33)).heap[w.heap.size]? = some (.cells #[.int .i64 p.src, .int .i64 p.dst, .int .i64 p.proto, .int .i64 p.a, .int .i64 p.b, .int .i64 p.kind, .int .i64 p.flags, .int .i64 p.seq, .int .i64 p.ack, .string p.body] 29)) := by
        show _ = _
        have := blk_alloc (heap_newG w (.cells #[.int .i64 p.src, .int .i64 p.dst, .int .i64 p.proto, .int .i64 p.a, .int .i64 p.b, .int .i64 p.kind, .int .i64 p.flags, .int .i64 p.seq, .int .i64 p.ack, .string p.body] 29)) (.cells #[.int .i64 0, .int .i64 0, .int .i64 0, .int .i64 0, .int .i64 0, .int .i64 0] 33)
        simpa using this
      have hGR0 : Hid (((w.alloc (.cells #[.int .i64 p.src, .int .i64 p.dst, .int .i64 p.proto, .int .i64 p.a, .int .i64 p.b, .int .i64 p.kind, .int .i64 p.flags, .int .i64 p.seq, .int .i64 p.ack, .string p.body] 29)).alloc (.cells #[.int .i64 0, .int .i64 0, .int .i64 0, .int .i64 0, .int .i64 0, .int .i64 0] 33)).heap[w.heap.size + 1]? = some (.cells #[.int .i64 0, .int .i64 0, .int .i64 0, .int .i64 0, .int .i64 0, .int .i64 0] 33)) := by
        show _ = _
        have := heap_newG (w.alloc (.cells #[.int .i64 p.src, .int .i64 p.dst, .int .i64 p.proto, .int .i64 p.a, .int .i64 p.b, .int .i64 p.kind, .int .i64 p.flags, .int .i64 p.seq, .int .i64 p.ack, .string p.body] 29)) (.cells #[.int .i64 0, .int .i64 0, .int .i64 0, .int .i64 0, .int .i64 0, .int .i64 0] 33)
        simpa using this
      have hL0 := hidS (((Below.refl w.heap.size w).alloc (Nat.le_refl _) (.cells #[.int .i64 p.src, .int .i64 p.dst, .int .i64 p.proto, .int .i64 p.a, .int .i64 p.b, .int .i64 p.kind, .int .i64 p.flags, .int .i64 p.seq, .int .i64 p.ack, .string p.body] 29)).alloc (by simp) (.cells #[.int .i64 0, .int .i64 0, .int .i64 0, .int .i64 0, .int .i64 0, .int .i64 0] 33))
      go_enter Tryd.func40, Tryd.ntmps40
      go_wp2_with fail
      refine (HR.out _).mono ?_
      rintro _ w1 ⟨rfl, hb1⟩
      have hGP1 := hidS (blk_later hGP0.out hb1)
      have hGR1 := hidS (blk_later hGR0.out hb1)
      have hL1 := hidS (hL0.out.trans (hb1.mono hL0.out.size))
      clear hb1 hL0 hGP0 hGR0
      rw [hr]
      have cP0 := blk_cell hGP1.out 0
      have cP1 := blk_cell hGP1.out 1
      have cP2 := blk_cell hGP1.out 2
      have cP3 := blk_cell hGP1.out 3
      have cP4 := blk_cell hGP1.out 4
      have cP5 := blk_cell hGP1.out 5
      have cP6 := blk_cell hGP1.out 6
      have cP7 := blk_cell hGP1.out 7
      have cP8 := blk_cell hGP1.out 8
      have cP9 := blk_cell hGP1.out 9
      simp at cP0 cP1 cP2 cP3 cP4 cP5 cP6 cP7 cP8 cP9
      go_wp2_with fail
      refine (HE.out _).mono ?_
      rintro _ w2 ⟨rfl, hb2⟩
      clear cP0 cP1 cP2 cP3 cP4 cP5 cP6 cP7 cP8 cP9
      have hGP2 := hidS (blk_later hGP1.out hb2)
      have hGR2 := hidS (blk_later hGR1.out hb2)
      have hL2 := hidS (hL1.out.trans (hb2.mono hL1.out.size))
      clear hb2 hL1 hGP1 hGR1
      rw [he]
      have lP := blk_lt hGP2.out
      have lR := blk_lt hGR2.out
      have cP0 := blk_cell hGP2.out 0
      have cP1 := blk_cell hGP2.out 1
      have cP2 := blk_cell hGP2.out 2
      have cP3 := blk_cell hGP2.out 3
      have cP4 := blk_cell hGP2.out 4
      have cP5 := blk_cell hGP2.out 5
      have cP6 := blk_cell hGP2.out 6
      have cP7 := blk_cell hGP2.out 7
      have cP8 := blk_cell hGP2.out 8
      have cP9 := blk_cell hGP2.out 9
      simp at cP0 cP1 cP2 cP3 cP4 cP5 cP6 cP7 cP8 cP9
      go_upto_region 6 with fail
      have hGT3 := hidS (heap_newG w2 (.cells #[.int .i64 p.proto, .int .i64 p.src, .int .i64 p.a, .int .i64 p.dst, .int .i64 p.b, .int .i64 p.kind] 33))
      have hGP3 := hidS (blk_alloc hGP2.out (.cells #[.int .i64 p.proto, .int .i64 p.src, .int .i64 p.a, .int .i64 p.dst, .int .i64 p.b, .int .i64 p.kind] 33))
      have hGR3 := hidS (blk_alloc hGR2.out (.cells #[.int .i64 p.proto, .int .i64 p.src, .int .i64 p.a, .int .i64 p.dst, .int .i64 p.b, .int .i64 p.kind] 33))
      have hL3 := hidS (hL2.out.alloc hL2.out.size (.cells #[.int .i64 p.proto, .int .i64 p.src, .int .i64 p.a, .int .i64 p.dst, .int .i64 p.b, .int .i64 p.kind] 33))
      clear lP lR cP0 cP1 cP2 cP3 cP4 cP5 cP6 cP7 cP8 cP9
      clear hL2 hGP2 hGR2
      generalize w2.alloc (.cells #[.int .i64 p.proto, .int .i64 p.src, .int .i64 p.a, .int .i64 p.dst, .int .i64 p.b, .int .i64 p.kind] 33) = w3 at hGP3 hGR3 hGT3 hL3 ⊢
      have cT0 := blk_cell hGT3.out 0
      have cT1 := blk_cell hGT3.out 1
      have cT2 := blk_cell hGT3.out 2
      have cT3 := blk_cell hGT3.out 3
      have cT4 := blk_cell hGT3.out 4
      have cT5 := blk_cell hGT3.out 5
      simp at cT0 cT1 cT2 cT3 cT4 cT5
      have kR := blk_cell hGR3.out
      have fR := blk_free hGR3.out
      go_wp2_with fail
      refine bodyPost_ret (v := .agg #[.int .i64 p.proto, .int .i64 p.src, .int .i64 p.a, .int .i64 p.dst, .int .i64 p.b, .int .i64 p.kind]) (by simp [results, Tryd.results40, go_sem, *]) rfl ⟨rfl, ?_⟩
      repeat (refine below_at ?_ (by omega))
      exact hL3.out
  · have e : ofAns p = zeroTp := if_neg (by rw [he]; simp)
    rw [e]
    clear e
    have hGP0 : Hid (((w.alloc (.cells #[.int .i64 p.src, .int .i64 p.dst, .int .i64 p.proto, .int .i64 p.a, .int .i64 p.b, .int .i64 p.kind, .int .i64 p.flags, .int .i64 p.seq, .int .i64 p.ack, .string p.body] 29)).alloc (.cells #[.int .i64 0, .int .i64 0, .int .i64 0, .int .i64 0, .int .i64 0, .int .i64 0] 33)).heap[w.heap.size]? = some (.cells #[.int .i64 p.src, .int .i64 p.dst, .int .i64 p.proto, .int .i64 p.a, .int .i64 p.b, .int .i64 p.kind, .int .i64 p.flags, .int .i64 p.seq, .int .i64 p.ack, .string p.body] 29)) := by
      show _ = _
      have := blk_alloc (heap_newG w (.cells #[.int .i64 p.src, .int .i64 p.dst, .int .i64 p.proto, .int .i64 p.a, .int .i64 p.b, .int .i64 p.kind, .int .i64 p.flags, .int .i64 p.seq, .int .i64 p.ack, .string p.body] 29)) (.cells #[.int .i64 0, .int .i64 0, .int .i64 0, .int .i64 0, .int .i64 0, .int .i64 0] 33)
      simpa using this
    have hGR0 : Hid (((w.alloc (.cells #[.int .i64 p.src, .int .i64 p.dst, .int .i64 p.proto, .int .i64 p.a, .int .i64 p.b, .int .i64 p.kind, .int .i64 p.flags, .int .i64 p.seq, .int .i64 p.ack, .string p.body] 29)).alloc (.cells #[.int .i64 0, .int .i64 0, .int .i64 0, .int .i64 0, .int .i64 0, .int .i64 0] 33)).heap[w.heap.size + 1]? = some (.cells #[.int .i64 0, .int .i64 0, .int .i64 0, .int .i64 0, .int .i64 0, .int .i64 0] 33)) := by
      show _ = _
      have := heap_newG (w.alloc (.cells #[.int .i64 p.src, .int .i64 p.dst, .int .i64 p.proto, .int .i64 p.a, .int .i64 p.b, .int .i64 p.kind, .int .i64 p.flags, .int .i64 p.seq, .int .i64 p.ack, .string p.body] 29)) (.cells #[.int .i64 0, .int .i64 0, .int .i64 0, .int .i64 0, .int .i64 0, .int .i64 0] 33)
      simpa using this
    have hL0 := hidS (((Below.refl w.heap.size w).alloc (Nat.le_refl _) (.cells #[.int .i64 p.src, .int .i64 p.dst, .int .i64 p.proto, .int .i64 p.a, .int .i64 p.b, .int .i64 p.kind, .int .i64 p.flags, .int .i64 p.seq, .int .i64 p.ack, .string p.body] 29)).alloc (by simp) (.cells #[.int .i64 0, .int .i64 0, .int .i64 0, .int .i64 0, .int .i64 0, .int .i64 0] 33))
    go_enter Tryd.func40, Tryd.ntmps40
    go_wp2_with fail
    refine (HR.out _).mono ?_
    rintro _ w1 ⟨rfl, hb1⟩
    have hGP1 := hidS (blk_later hGP0.out hb1)
    have hGR1 := hidS (blk_later hGR0.out hb1)
    have hL1 := hidS (hL0.out.trans (hb1.mono hL0.out.size))
    clear hb1 hL0 hGP0 hGR0
    rw [hr]
    have cP0 := blk_cell hGP1.out 0
    have cP1 := blk_cell hGP1.out 1
    have cP2 := blk_cell hGP1.out 2
    have cP3 := blk_cell hGP1.out 3
    have cP4 := blk_cell hGP1.out 4
    have cP5 := blk_cell hGP1.out 5
    have cP6 := blk_cell hGP1.out 6
    have cP7 := blk_cell hGP1.out 7
    have cP8 := blk_cell hGP1.out 8
    have cP9 := blk_cell hGP1.out 9
    simp at cP0 cP1 cP2 cP3 cP4 cP5 cP6 cP7 cP8 cP9
    go_wp2_with fail
    refine (HE.out _).mono ?_
    rintro _ w2 ⟨rfl, hb2⟩
    clear cP0 cP1 cP2 cP3 cP4 cP5 cP6 cP7 cP8 cP9
    have hGP2 := hidS (blk_later hGP1.out hb2)
    have hGR2 := hidS (blk_later hGR1.out hb2)
    have hL2 := hidS (hL1.out.trans (hb2.mono hL1.out.size))
    clear hb2 hL1 hGP1 hGR1
    rw [he]
    have kR := blk_cell hGR2.out
    have fR := blk_free hGR2.out
    go_wp2_with fail
    refine bodyPost_ret (v := .agg #[.int .i64 zeroTp.proto, .int .i64 zeroTp.src, .int .i64 zeroTp.sport, .int .i64 zeroTp.dst, .int .i64 zeroTp.dport, .int .i64 zeroTp.kind]) (by simp [results, Tryd.results40, go_sem, zeroTp, *]) rfl ⟨rfl, ?_⟩
    repeat (refine below_at ?_ (by omega))
    exact hL2.out
end Go.Proofs.YtbhemimhmkgfiaaDoor
