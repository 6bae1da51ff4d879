/- Proved here: spec.FlowRight, l09Packet, l09Side answer as the plain functions; all old memory stays (no conditions but those that stand there). -/
import Derived.Test.YtbhemimhmkgfiaaDoorFlowMath
import Derived.Test.YtbhemimhmkgfiaaDoorTRightSpec
import Derived.Test.YtbhemimhmkgfiaaDoorL04Err
import Derived.Test.YtbhemimhmkgfiaaDoorAll8
import Derived.Test.YtbhemimhmkgfiaaDoorRightSpec
import Derived.Test.YtbhemimhmkgfiaaDoorSameB
import Derived.Test.YtbhemimhmkgfiaaDoorGrowCases
import Derived.Test.YtbhemimhmkgfiaaDoorGrowPlain
import Derived.Deep.Cut
import Derived.Deep.CutBlock
import Derived.Deep.DeepCutAuto
namespace Go.Proofs.YtbhemimhmkgfiaaDoor
open Go.ChangeShapes Go.WideShapes Go.ChangeAt Go.RowKit
set_option linter.unusedVariables false
set_option linter.unusedSimpArgs false
set_option maxRecDepth 100000

theorem l02Tm_any (n : Int) (w : World) : Calls Tryd.prog 33 #[.int .i64 n] w fun e w' => e = .returned (.bool (tmB n)) ∧ w' = w := by
  go_enter Tryd.func33, Tryd.ntmps33
  go_wp2_with fail
  refine (l02Is_any n 0 1000000 _).mono ?_
  rintro e w1 ⟨rfl, rfl⟩
  go_wp2
  go_ret
  exact ⟨rfl, rfl⟩
theorem cnt_eq (n : Int) : (decide (1 ≤ n) && decide (n ≤ 1000000)) = cntB n := rfl
set_option maxHeartbeats 4000000 in
theorem specFR_any (f : Fl) (w : World) :
    Calls Tryd.prog 13 #[.agg #[.int .i64 f.orig.proto, .int .i64 f.orig.src, .int .i64 f.orig.sport, .int .i64 f.orig.dst, .int .i64 f.orig.dport, .int .i64 f.orig.kind, .int .i64 f.back.proto, .int .i64 f.back.src, .int .i64 f.back.sport, .int .i64 f.back.dst, .int .i64 f.back.dport, .int .i64 f.back.kind, .int .i64 f.state, .bool f.seen, .bool f.sure, .int .i64 f.till, .int .i64 f.count]] w fun e w' => e = .returned (.bool (rightF f)) ∧ Below w.heap.size w w' := by
  have E : Hid (rightF f = (rightT f.orig && rightT f.back && f.orig.proto == f.back.proto && !(f.sure && !f.seen) && tmB f.till && cntB f.count && partB f)) := rfl
  have HO := hidS (fun W => specTRight_any f.orig W)
  have HB := hidS (fun W => specTRight_any f.back W)
  have HT := hidS (fun W => l02Tm_any f.till W)
  have HC := hidS (fun W => l02Is_any f.count 1 1000000 W)
  have HS := hidS (fun W => l02Is_any f.state 1 8 W)
  rw [cnt_eq] at HC
  have hGF0 : Hid ((w.alloc (.cells #[.int .i64 f.orig.proto, .int .i64 f.orig.src, .int .i64 f.orig.sport, .int .i64 f.orig.dst, .int .i64 f.orig.dport, .int .i64 f.orig.kind, .int .i64 f.back.proto, .int .i64 f.back.src, .int .i64 f.back.sport, .int .i64 f.back.dst, .int .i64 f.back.dport, .int .i64 f.back.kind, .int .i64 f.state, .bool f.seen, .bool f.sure, .int .i64 f.till, .int .i64 f.count] 35)).heap[w.heap.size]? = some (.cells #[.int .i64 f.orig.proto, .int .i64 f.orig.src, .int .i64 f.orig.sport, .int .i64 f.orig.dst, .int .i64 f.orig.dport, .int .i64 f.orig.kind, .int .i64 f.back.proto, .int .i64 f.back.src, .int .i64 f.back.sport, .int .i64 f.back.dst, .int .i64 f.back.dport, .int .i64 f.back.kind, .int .i64 f.state, .bool f.seen, .bool f.sure, .int .i64 f.till, .int .i64 f.count] 35)) := by
    show _ = _
    have := heap_newG w (.cells #[.int .i64 f.orig.proto, .int .i64 f.orig.src, .int .i64 f.orig.sport, .int .i64 f.orig.dst, .int .i64 f.orig.dport, .int .i64 f.orig.kind, .int .i64 f.back.proto, .int .i64 f.back.src, .int .i64 f.back.sport, .int .i64 f.back.dst, .int .i64 f.back.dport, .int .i64 f.back.kind, .int .i64 f.state, .bool f.seen, .bool f.sure, .int .i64 f.till, .int .i64 f.count] 35)
    simpa using this
  have hL0 := hidS ((Below.refl w.heap.size w).alloc (Nat.le_refl _) (.cells #[.int .i64 f.orig.proto, .int .i64 f.orig.src, .int .i64 f.orig.sport, .int .i64 f.orig.dst, .int .i64 f.orig.dport, .int .i64 f.orig.kind, .int .i64 f.back.proto, .int .i64 f.back.src, .int .i64 f.back.sport, .int .i64 f.back.dst, .int .i64 f.back.dport, .int .i64 f.back.kind, .int .i64 f.state, .bool f.seen, .bool f.sure, .int .i64 f.till, .int .i64 f.count] 35))
  go_enter Tryd.func13, Tryd.ntmps13
  go_upto_region 1 with fail
  generalize (w.alloc (.cells #[.int .i64 f.orig.proto, .int .i64 f.orig.src, .int .i64 f.orig.sport, .int .i64 f.orig.dst, .int .i64 f.orig.dport, .int .i64 f.orig.kind, .int .i64 f.back.proto, .int .i64 f.back.src, .int .i64 f.back.sport, .int .i64 f.back.dst, .int .i64 f.back.dport, .int .i64 f.back.kind, .int .i64 f.state, .bool f.seen, .bool f.sure, .int .i64 f.till, .int .i64 f.count] 35)) = w0 at hGF0 hL0 ⊢
  have cF0 := blk_cell hGF0.out 0
  have cF1 := blk_cell hGF0.out 1
  have cF2 := blk_cell hGF0.out 2
  have cF3 := blk_cell hGF0.out 3
  have cF4 := blk_cell hGF0.out 4
  have cF5 := blk_cell hGF0.out 5
  have cF6 := blk_cell hGF0.out 6
  have cF7 := blk_cell hGF0.out 7
  have cF8 := blk_cell hGF0.out 8
  have cF9 := blk_cell hGF0.out 9
  have cF10 := blk_cell hGF0.out 10
  have cF11 := blk_cell hGF0.out 11
  have cF12 := blk_cell hGF0.out 12
  have cF13 := blk_cell hGF0.out 13
  have cF14 := blk_cell hGF0.out 14
  have cF15 := blk_cell hGF0.out 15
  have cF16 := blk_cell hGF0.out 16
  simp at cF0 cF1 cF2 cF3 cF4 cF5 cF6 cF7 cF8 cF9 cF10 cF11 cF12 cF13 cF14 cF15 cF16
  go_wp2_with fail
  refine (HO.out _).mono ?_
  rintro _ w1 ⟨rfl, hb1⟩
  clear cF0 cF1 cF2 cF3 cF4 cF5 cF6 cF7 cF8 cF9 cF10 cF11 cF12 cF13 cF14 cF15 cF16
  have hGF1 := hidS (blk_later hGF0.out hb1)
  have hL1 := hidS (hL0.out.trans (hb1.mono hL0.out.size))
  clear hb1 hL0 hGF0
  cases h0 : rightT f.orig
  · go_wp2_with fail
    go_ret
    exact ⟨by rw [E.out, h0]; rfl, hL1.out⟩
  have cF0 := blk_cell hGF1.out 0
  have cF1 := blk_cell hGF1.out 1
  have cF2 := blk_cell hGF1.out 2
  have cF3 := blk_cell hGF1.out 3
  have cF4 := blk_cell hGF1.out 4
  have cF5 := blk_cell hGF1.out 5
  have cF6 := blk_cell hGF1.out 6
  have cF7 := blk_cell hGF1.out 7
  have cF8 := blk_cell hGF1.out 8
  have cF9 := blk_cell hGF1.out 9
  have cF10 := blk_cell hGF1.out 10
  have cF11 := blk_cell hGF1.out 11
  have cF12 := blk_cell hGF1.out 12
  have cF13 := blk_cell hGF1.out 13
  have cF14 := blk_cell hGF1.out 14
  have cF15 := blk_cell hGF1.out 15
  have cF16 := blk_cell hGF1.out 16
  simp at cF0 cF1 cF2 cF3 cF4 cF5 cF6 cF7 cF8 cF9 cF10 cF11 cF12 cF13 cF14 cF15 cF16
  go_wp2_with fail
  refine (HB.out _).mono ?_
  rintro _ w2 ⟨rfl, hb2⟩
  clear cF0 cF1 cF2 cF3 cF4 cF5 cF6 cF7 cF8 cF9 cF10 cF11 cF12 cF13 cF14 cF15 cF16
  have hGF2 := hidS (blk_later hGF1.out hb2)
  have hL2 := hidS (hL1.out.trans (hb2.mono hL1.out.size))
  clear hb2 hL1 hGF1
  cases h1 : rightT f.back
  · go_wp2_with fail
    go_ret
    exact ⟨by rw [E.out, h0, h1]; rfl, hL2.out⟩
  have cF0 := blk_cell hGF2.out 0
  have cF1 := blk_cell hGF2.out 1
  have cF2 := blk_cell hGF2.out 2
  have cF3 := blk_cell hGF2.out 3
  have cF4 := blk_cell hGF2.out 4
  have cF5 := blk_cell hGF2.out 5
  have cF6 := blk_cell hGF2.out 6
  have cF7 := blk_cell hGF2.out 7
  have cF8 := blk_cell hGF2.out 8
  have cF9 := blk_cell hGF2.out 9
  have cF10 := blk_cell hGF2.out 10
  have cF11 := blk_cell hGF2.out 11
  have cF12 := blk_cell hGF2.out 12
  have cF13 := blk_cell hGF2.out 13
  have cF14 := blk_cell hGF2.out 14
  have cF15 := blk_cell hGF2.out 15
  have cF16 := blk_cell hGF2.out 16
  simp at cF0 cF1 cF2 cF3 cF4 cF5 cF6 cF7 cF8 cF9 cF10 cF11 cF12 cF13 cF14 cF15 cF16
  cases h2 : (f.orig.proto == f.back.proto)
  · have hh : (f.orig.proto != f.back.proto) = true := by unfold bne; rw [h2]; rfl
    go_wp2_with fail
    go_ret
    exact ⟨by rw [E.out, h0, h1, h2]; rfl, hL2.out⟩
  have hh : (f.orig.proto != f.back.proto) = false := by unfold bne; rw [h2]; rfl
  cases hu : f.sure
  · go_wp2_with fail
    refine (HT.out _).mono ?_
    rintro _ v ⟨rfl, hv⟩
    rw [hv]
    clear hv v
    cases h4 : tmB f.till
    · go_wp2_with fail
      go_ret
      exact ⟨by rw [E.out, h0, h1, h2, hu, h4]; rfl, hL2.out⟩
    go_wp2_with fail
    refine (HC.out _).mono ?_
    rintro _ v ⟨rfl, hv⟩
    rw [hv]
    clear hv v
    cases h5 : cntB f.count
    · go_wp2_with fail
      go_ret
      exact ⟨by rw [E.out, h0, h1, h2, hu, h4, h5]; rfl, hL2.out⟩
    have E2 : Hid (rightF f = partB f) := by show _ = _; rw [E.out, h0, h1, h2, hu, h4, h5]; rfl
    cases h6 : (f.orig.proto == 6)
    · have n6 : ¬ f.orig.proto = 6 := beq_eq_false_iff_ne.1 h6
      cases p1 : (f.orig.proto == 1)
      · have n1 : ¬ f.orig.proto = 1 := beq_eq_false_iff_ne.1 p1
        have E3 := hidS (E2.out.trans (show partB f = (f.state == 0) by unfold partB; rw [if_neg n6, if_neg n1]))
        clear n1 n6
        go_wp2_with fail
        go_ret
        exact ⟨by rw [E3.out]; rfl, hL2.out⟩
      · have n1 : f.orig.proto = 1 := beq_iff_eq.1 p1
        have E3 := hidS (E2.out.trans (show partB f = (f.state == 0 && (f.orig.kind == 8 && f.back.kind == 0)) by unfold partB; rw [if_neg n6, if_pos n1]))
        clear n1 n6
        cases s0 : (f.state == 0)
        · go_wp2_with fail
          go_ret
          exact ⟨by rw [E3.out, s0]; rfl, hL2.out⟩
        cases k8 : (f.orig.kind == 8)
        · go_wp2_with fail
          go_ret
          exact ⟨by rw [E3.out, s0, k8]; rfl, hL2.out⟩
        cases k0 : (f.back.kind == 0)
        · go_wp2_with fail
          go_ret
          exact ⟨by rw [E3.out, s0, k8, k0]; rfl, hL2.out⟩
        · go_wp2_with fail
          go_ret
          exact ⟨by rw [E3.out, s0, k8, k0]; rfl, hL2.out⟩
    have n6 : f.orig.proto = 6 := beq_iff_eq.1 h6
    have E3 := hidS (E2.out.trans (show partB f = (decide (1 ≤ f.state) && decide (f.state ≤ 8)) by unfold partB; rw [if_pos n6]))
    clear n6
    go_wp2_with fail
    refine (HS.out _).mono ?_
    rintro _ v ⟨rfl, hv⟩
    rw [hv]
    clear hv v
    go_wp2_with fail
    go_ret
    exact ⟨by rw [E3.out]; rfl, hL2.out⟩
  cases hn : f.seen
  · go_wp2_with fail
    go_ret
    exact ⟨by rw [E.out, h0, h1, h2, hu, hn]; rfl, hL2.out⟩
  go_wp2_with fail
  refine (HT.out _).mono ?_
  rintro _ v ⟨rfl, hv⟩
  rw [hv]
  clear hv v
  cases h4 : tmB f.till
  · go_wp2_with fail
    go_ret
    exact ⟨by rw [E.out, h0, h1, h2, hu, hn, h4]; rfl, hL2.out⟩
  go_wp2_with fail
  refine (HC.out _).mono ?_
  rintro _ v ⟨rfl, hv⟩
  rw [hv]
  clear hv v
  cases h5 : cntB f.count
  · go_wp2_with fail
    go_ret
    exact ⟨by rw [E.out, h0, h1, h2, hu, hn, h4, h5]; rfl, hL2.out⟩
  have E2 : Hid (rightF f = partB f) := by show _ = _; rw [E.out, h0, h1, h2, hu, hn, h4, h5]; rfl
  cases h6 : (f.orig.proto == 6)
  · have n6 : ¬ f.orig.proto = 6 := beq_eq_false_iff_ne.1 h6
    cases p1 : (f.orig.proto == 1)
    · have n1 : ¬ f.orig.proto = 1 := beq_eq_false_iff_ne.1 p1
      have E3 := hidS (E2.out.trans (show partB f = (f.state == 0) by unfold partB; rw [if_neg n6, if_neg n1]))
      clear n1 n6
      go_wp2_with fail
      go_ret
      exact ⟨by rw [E3.out]; rfl, hL2.out⟩
    · have n1 : f.orig.proto = 1 := beq_iff_eq.1 p1
      have E3 := hidS (E2.out.trans (show partB f = (f.state == 0 && (f.orig.kind == 8 && f.back.kind == 0)) by unfold partB; rw [if_neg n6, if_pos n1]))
      clear n1 n6
      cases s0 : (f.state == 0)
      · go_wp2_with fail
        go_ret
        exact ⟨by rw [E3.out, s0]; rfl, hL2.out⟩
      cases k8 : (f.orig.kind == 8)
      · go_wp2_with fail
        go_ret
        exact ⟨by rw [E3.out, s0, k8]; rfl, hL2.out⟩
      cases k0 : (f.back.kind == 0)
      · go_wp2_with fail
        go_ret
        exact ⟨by rw [E3.out, s0, k8, k0]; rfl, hL2.out⟩
      · go_wp2_with fail
        go_ret
        exact ⟨by rw [E3.out, s0, k8, k0]; rfl, hL2.out⟩
  have n6 : f.orig.proto = 6 := beq_iff_eq.1 h6
  have E3 := hidS (E2.out.trans (show partB f = (decide (1 ≤ f.state) && decide (f.state ≤ 8)) by unfold partB; rw [if_pos n6]))
  clear n6
  go_wp2_with fail
  refine (HS.out _).mono ?_
  rintro _ v ⟨rfl, hv⟩
  rw [hv]
  clear hv v
  go_wp2_with fail
  go_ret
  exact ⟨by rw [E3.out]; rfl, hL2.out⟩
set_option maxHeartbeats 4000000 in
theorem l09Packet_any (p : Pk) (w : World) (hs : p.body.size ≤ maxLen) :
    Calls Tryd.prog 14 #[.agg #[.int .i64 p.src, .int .i64 p.dst, .int .i64 p.proto, .int .i64 p.a, .int .i64 p.b, .int .i64 p.kind, .int .i64 p.flags, .int .i64 p.seq, .int .i64 p.ack, .string p.body]] w fun e w' => e = .returned (.bool (packB p)) ∧ Below w.heap.size w w' := by
  have E : Hid (packB p = (rightB p && !errorB p)) := rfl
  have HR := hidS (fun W => specRight_any p W hs)
  have HE := hidS (fun W => l04Error_any p W)
  clear hs
  have hGP0 : Hid ((w.alloc (.cells #[.int .i64 p.src, .int .i64 p.dst, .int .i64 p.proto, .int .i64 p.a, .int .i64 p.b, .int .i64 p.kind, .int .i64 p.flags, .int .i64 p.seq, .int .i64 p.ack, .string p.body] 29)).heap[w.heap.size]? = some (.cells #[.int .i64 p.src, .int .i64 p.dst, .int .i64 p.proto, .int .i64 p.a, .int .i64 p.b, .int .i64 p.kind, .int .i64 p.flags, .int .i64 p.seq, .int .i64 p.ack, .string p.body] 29)) := by
    show _ = _
    have := heap_newG w (.cells #[.int .i64 p.src, .int .i64 p.dst, .int .i64 p.proto, .int .i64 p.a, .int .i64 p.b, .int .i64 p.kind, .int .i64 p.flags, .int .i64 p.seq, .int .i64 p.ack, .string p.body] 29)
    simpa using this
  have hL0 := hidS ((Below.refl w.heap.size w).alloc (Nat.le_refl _) (.cells #[.int .i64 p.src, .int .i64 p.dst, .int .i64 p.proto, .int .i64 p.a, .int .i64 p.b, .int .i64 p.kind, .int .i64 p.flags, .int .i64 p.seq, .int .i64 p.ack, .string p.body] 29))
  go_enter Tryd.func14, Tryd.ntmps14
  go_upto_region 1 with fail
  generalize (w.alloc (.cells #[.int .i64 p.src, .int .i64 p.dst, .int .i64 p.proto, .int .i64 p.a, .int .i64 p.b, .int .i64 p.kind, .int .i64 p.flags, .int .i64 p.seq, .int .i64 p.ack, .string p.body] 29)) = w0 at hGP0 hL0 ⊢
  have cP0 := blk_cell hGP0.out 0
  have cP1 := blk_cell hGP0.out 1
  have cP2 := blk_cell hGP0.out 2
  have cP3 := blk_cell hGP0.out 3
  have cP4 := blk_cell hGP0.out 4
  have cP5 := blk_cell hGP0.out 5
  have cP6 := blk_cell hGP0.out 6
  have cP7 := blk_cell hGP0.out 7
  have cP8 := blk_cell hGP0.out 8
  have cP9 := blk_cell hGP0.out 9
  simp at cP0 cP1 cP2 cP3 cP4 cP5 cP6 cP7 cP8 cP9
  go_wp2_with fail
  refine (HR.out _).mono ?_
  rintro _ w1 ⟨rfl, hb1⟩
  clear cP0 cP1 cP2 cP3 cP4 cP5 cP6 cP7 cP8 cP9
  have hGP1 := hidS (blk_later hGP0.out hb1)
  have hL1 := hidS (hL0.out.trans (hb1.mono hL0.out.size))
  clear hb1 hL0 hGP0
  cases h0 : rightB p
  · go_wp2_with fail
    go_ret
    exact ⟨by rw [E.out, h0]; rfl, hL1.out⟩
  have cP0 := blk_cell hGP1.out 0
  have cP1 := blk_cell hGP1.out 1
  have cP2 := blk_cell hGP1.out 2
  have cP3 := blk_cell hGP1.out 3
  have cP4 := blk_cell hGP1.out 4
  have cP5 := blk_cell hGP1.out 5
  have cP6 := blk_cell hGP1.out 6
  have cP7 := blk_cell hGP1.out 7
  have cP8 := blk_cell hGP1.out 8
  have cP9 := blk_cell hGP1.out 9
  simp at cP0 cP1 cP2 cP3 cP4 cP5 cP6 cP7 cP8 cP9
  go_wp2_with fail
  refine (HE.out _).mono ?_
  rintro _ w2 ⟨rfl, hb2⟩
  clear cP0 cP1 cP2 cP3 cP4 cP5 cP6 cP7 cP8 cP9
  have hGP2 := hidS (blk_later hGP1.out hb2)
  have hL2 := hidS (hL1.out.trans (hb2.mono hL1.out.size))
  clear hb2 hL1 hGP1
  go_wp2_with fail
  go_ret
  exact ⟨by rw [E.out, h0]; rfl, hL2.out⟩
theorem l09Side_any (f : Fl) (b : Bool) (w : World) :
    Calls Tryd.prog 16 #[.agg #[.int .i64 f.orig.proto, .int .i64 f.orig.src, .int .i64 f.orig.sport, .int .i64 f.orig.dst, .int .i64 f.orig.dport, .int .i64 f.orig.kind, .int .i64 f.back.proto, .int .i64 f.back.src, .int .i64 f.back.sport, .int .i64 f.back.dst, .int .i64 f.back.dport, .int .i64 f.back.kind, .int .i64 f.state, .bool f.seen, .bool f.sure, .int .i64 f.till, .int .i64 f.count], .bool b] w fun e w' => e = .returned (.agg #[.int .i64 (sideF f b).proto, .int .i64 (sideF f b).src, .int .i64 (sideF f b).sport, .int .i64 (sideF f b).dst, .int .i64 (sideF f b).dport, .int .i64 (sideF f b).kind]) ∧ Below w.heap.size w w' := by
  cases b
  · show Calls Tryd.prog 16 #[.agg #[.int .i64 f.orig.proto, .int .i64 f.orig.src, .int .i64 f.orig.sport, .int .i64 f.orig.dst, .int .i64 f.orig.dport, .int .i64 f.orig.kind, .int .i64 f.back.proto, .int .i64 f.back.src, .int .i64 f.back.sport, .int .i64 f.back.dst, .int .i64 f.back.dport, .int .i64 f.back.kind, .int .i64 f.state, .bool f.seen, .bool f.sure, .int .i64 f.till, .int .i64 f.count], .bool false] w fun e w' => e = .returned (.agg #[.int .i64 f.orig.proto, .int .i64 f.orig.src, .int .i64 f.orig.sport, .int .i64 f.orig.dst, .int .i64 f.orig.dport, .int .i64 f.orig.kind]) ∧ Below w.heap.size w w'
    have hGF0 : Hid (((w.alloc (.cells #[.int .i64 f.orig.proto, .int .i64 f.orig.src, .int .i64 f.orig.sport, .int .i64 f.orig.dst, .int .i64 f.orig.dport, .int .i64 f.orig.kind, .int .i64 f.back.proto, .int .i64 f.back.src, .int .i64 f.back.sport, .int .i64 f.back.dst, .int .i64 f.back.dport, .int .i64 f.back.kind, .int .i64 f.state, .bool f.seen, .bool f.sure, .int .i64 f.till, .int .i64 f.count] 35)).alloc (.cells #[.int .i64 0, .int .i64 0, .int .i64 0, .int .i64 0, .int .i64 0, .int .i64 0] 33)).heap[w.heap.size]? = some (.cells #[.int .i64 f.orig.proto, .int .i64 f.orig.src, .int .i64 f.orig.sport, .int .i64 f.orig.dst, .int .i64 f.orig.dport, .int .i64 f.orig.kind, .int .i64 f.back.proto, .int .i64 f.back.src, .int .i64 f.back.sport, .int .i64 f.back.dst, .int .i64 f.back.dport, .int .i64 f.back.kind, .int .i64 f.state, .bool f.seen, .bool f.sure, .int .i64 f.till, .int .i64 f.count] 35)) := by
      show _ = _
      have := blk_alloc (heap_newG w (.cells #[.int .i64 f.orig.proto, .int .i64 f.orig.src, .int .i64 f.orig.sport, .int .i64 f.orig.dst, .int .i64 f.orig.dport, .int .i64 f.orig.kind, .int .i64 f.back.proto, .int .i64 f.back.src, .int .i64 f.back.sport, .int .i64 f.back.dst, .int .i64 f.back.dport, .int .i64 f.back.kind, .int .i64 f.state, .bool f.seen, .bool f.sure, .int .i64 f.till, .int .i64 f.count] 35)) (.cells #[.int .i64 0, .int .i64 0, .int .i64 0, .int .i64 0, .int .i64 0, .int .i64 0] 33)
      simpa using this
    have hGR0 : Hid (((w.alloc (.cells #[.int .i64 f.orig.proto, .int .i64 f.orig.src, .int .i64 f.orig.sport, .int .i64 f.orig.dst, .int .i64 f.orig.dport, .int .i64 f.orig.kind, .int .i64 f.back.proto, .int .i64 f.back.src, .int .i64 f.back.sport, .int .i64 f.back.dst, .int .i64 f.back.dport, .int .i64 f.back.kind, .int .i64 f.state, .bool f.seen, .bool f.sure, .int .i64 f.till, .int .i64 f.count] 35)).alloc (.cells #[.int .i64 0, .int .i64 0, .int .i64 0, .int .i64 0, .int .i64 0, .int .i64 0] 33)).heap[w.heap.size + 1]? = some (.cells #[.int .i64 0, .int .i64 0, .int .i64 0, .int .i64 0, .int .i64 0, .int .i64 0] 33)) := by
      show _ = _
      have := heap_newG (w.alloc (.cells #[.int .i64 f.orig.proto, .int .i64 f.orig.src, .int .i64 f.orig.sport, .int .i64 f.orig.dst, .int .i64 f.orig.dport, .int .i64 f.orig.kind, .int .i64 f.back.proto, .int .i64 f.back.src, .int .i64 f.back.sport, .int .i64 f.back.dst, .int .i64 f.back.dport, .int .i64 f.back.kind, .int .i64 f.state, .bool f.seen, .bool f.sure, .int .i64 f.till, .int .i64 f.count] 35)) (.cells #[.int .i64 0, .int .i64 0, .int .i64 0, .int .i64 0, .int .i64 0, .int .i64 0] 33)
      simpa using this
    have hL0 := hidS (((Below.refl w.heap.size w).alloc (Nat.le_refl _) (.cells #[.int .i64 f.orig.proto, .int .i64 f.orig.src, .int .i64 f.orig.sport, .int .i64 f.orig.dst, .int .i64 f.orig.dport, .int .i64 f.orig.kind, .int .i64 f.back.proto, .int .i64 f.back.src, .int .i64 f.back.sport, .int .i64 f.back.dst, .int .i64 f.back.dport, .int .i64 f.back.kind, .int .i64 f.state, .bool f.seen, .bool f.sure, .int .i64 f.till, .int .i64 f.count] 35)).alloc (by simp) (.cells #[.int .i64 0, .int .i64 0, .int .i64 0, .int .i64 0, .int .i64 0, .int .i64 0] 33))
    go_enter Tryd.func16, Tryd.ntmps16
    go_upto_region 1 with fail
    generalize ((w.alloc (.cells #[.int .i64 f.orig.proto, .int .i64 f.orig.src, .int .i64 f.orig.sport, .int .i64 f.orig.dst, .int .i64 f.orig.dport, .int .i64 f.orig.kind, .int .i64 f.back.proto, .int .i64 f.back.src, .int .i64 f.back.sport, .int .i64 f.back.dst, .int .i64 f.back.dport, .int .i64 f.back.kind, .int .i64 f.state, .bool f.seen, .bool f.sure, .int .i64 f.till, .int .i64 f.count] 35)).alloc (.cells #[.int .i64 0, .int .i64 0, .int .i64 0, .int .i64 0, .int .i64 0, .int .i64 0] 33)) = w0 at hGF0 hGR0 hL0 ⊢
    have cF0 := blk_cell hGF0.out 0
    have cF1 := blk_cell hGF0.out 1
    have cF2 := blk_cell hGF0.out 2
    have cF3 := blk_cell hGF0.out 3
    have cF4 := blk_cell hGF0.out 4
    have cF5 := blk_cell hGF0.out 5
    have cF6 := blk_cell hGF0.out 6
    have cF7 := blk_cell hGF0.out 7
    have cF8 := blk_cell hGF0.out 8
    have cF9 := blk_cell hGF0.out 9
    have cF10 := blk_cell hGF0.out 10
    have cF11 := blk_cell hGF0.out 11
    have cF12 := blk_cell hGF0.out 12
    have cF13 := blk_cell hGF0.out 13
    have cF14 := blk_cell hGF0.out 14
    have cF15 := blk_cell hGF0.out 15
    have cF16 := blk_cell hGF0.out 16
    simp at cF0 cF1 cF2 cF3 cF4 cF5 cF6 cF7 cF8 cF9 cF10 cF11 cF12 cF13 cF14 cF15 cF16
    have kR := blk_cell hGR0.out
    have fR := blk_free hGR0.out
    go_wp2_with fail
    refine bodyPost_ret (v := .agg #[.int .i64 f.orig.proto, .int .i64 f.orig.src, .int .i64 f.orig.sport, .int .i64 f.orig.dst, .int .i64 f.orig.dport, .int .i64 f.orig.kind]) (by simp [results, Tryd.results16, go_sem, *]) rfl ⟨rfl, ?_⟩
    repeat (refine below_at ?_ (by omega))
    exact hL0.out
  · show Calls Tryd.prog 16 #[.agg #[.int .i64 f.orig.proto, .int .i64 f.orig.src, .int .i64 f.orig.sport, .int .i64 f.orig.dst, .int .i64 f.orig.dport, .int .i64 f.orig.kind, .int .i64 f.back.proto, .int .i64 f.back.src, .int .i64 f.back.sport, .int .i64 f.back.dst, .int .i64 f.back.dport, .int .i64 f.back.kind, .int .i64 f.state, .bool f.seen, .bool f.sure, .int .i64 f.till, .int .i64 f.count], .bool true] w fun e w' => e = .returned (.agg #[.int .i64 f.back.proto, .int .i64 f.back.src, .int .i64 f.back.sport, .int .i64 f.back.dst, .int .i64 f.back.dport, .int .i64 f.back.kind]) ∧ Below w.heap.size w w'
    have hGF0 : Hid (((w.alloc (.cells #[.int .i64 f.orig.proto, .int .i64 f.orig.src, .int .i64 f.orig.sport, .int .i64 f.orig.dst, .int .i64 f.orig.dport, .int .i64 f.orig.kind, .int .i64 f.back.proto, .int .i64 f.back.src, .int .i64 f.back.sport, .int .i64 f.back.dst, .int .i64 f.back.dport, .int .i64 f.back.kind, .int .i64 f.state, .bool f.seen, .bool f.sure, .int .i64 f.till, .int .i64 f.count] 35)).alloc (.cells #[.int .i64 0, .int .i64 0, .int .i64 0, .int .i64 0, .int .i64 0, .int .i64 0] 33)).heap[w.heap.size]? = some (.cells #[.int .i64 f.orig.proto, .int .i64 f.orig.src, .int .i64 f.orig.sport, .int .i64 f.orig.dst, .int .i64 f.orig.dport, .int .i64 f.orig.kind, .int .i64 f.back.proto, .int .i64 f.back.src, .int .i64 f.back.sport, .int .i64 f.back.dst, .int .i64 f.back.dport, .int .i64 f.back.kind, .int .i64 f.state, .bool f.seen, .bool f.sure, .int .i64 f.till, .int .i64 f.count] 35)) := by
      show _ = _
      have := blk_alloc (heap_newG w (.cells #[.int .i64 f.orig.proto, .int .i64 f.orig.src, .int .i64 f.orig.sport, .int .i64 f.orig.dst, .int .i64 f.orig.dport, .int .i64 f.orig.kind, .int .i64 f.back.proto, .int .i64 f.back.src, .int .i64 f.back.sport, .int .i64 f.back.dst, .int .i64 f.back.dport, .int .i64 f.back.kind, .int .i64 f.state, .bool f.seen, .bool f.sure, .int .i64 f.till, .int .i64 f.count] 35)) (.cells #[.int .i64 0, .int .i64 0, .int .i64 0, .int .i64 0, .int .i64 0, .int .i64 0] 33)
      simpa using this
    have hGR0 : Hid (((w.alloc (.cells #[.int .i64 f.orig.proto, .int .i64 f.orig.src, .int .i64 f.orig.sport, .int .i64 f.orig.dst, .int .i64 f.orig.dport, .int .i64 f.orig.kind, .int .i64 f.back.proto, .int .i64 f.back.src, .int .i64 f.back.sport, .int .i64 f.back.dst, .int .i64 f.back.dport, .int .i64 f.back.kind, .int .i64 f.state, .bool f.seen, .bool f.sure, .int .i64 f.till, .int .i64 f.count] 35)).alloc (.cells #[.int .i64 0, .int .i64 0, .int .i64 0, .int .i64 0, .int .i64 0, .int .i64 0] 33)).heap[w.heap.size + 1]? = some (.cells #[.int .i64 0, .int .i64 0, .int .i64 0, .int .i64 0, .int .i64 0, .int .i64 0] 33)) := by
      show _ = _
      have := heap_newG (w.alloc (.cells #[.int .i64 f.orig.proto, .int .i64 f.orig.src, .int .i64 f.orig.sport, .int .i64 f.orig.dst, .int .i64 f.orig.dport, .int .i64 f.orig.kind, .int .i64 f.back.proto, .int .i64 f.back.src, .int .i64 f.back.sport, .int .i64 f.back.dst, .int .i64 f.back.dport, .int .i64 f.back.kind, .int .i64 f.state, .bool f.seen, .bool f.sure, .int .i64 f.till, .int .i64 f.count] 35)) (.cells #[.int .i64 0, .int .i64 0, .int .i64 0, .int .i64 0, .int .i64 0, .int .i64 0] 33)
      simpa using this
    have hL0 := hidS (((Below.refl w.heap.size w).alloc (Nat.le_refl _) (.cells #[.int .i64 f.orig.proto, .int .i64 f.orig.src, .int .i64 f.orig.sport, .int .i64 f.orig.dst, .int .i64 f.orig.dport, .int .i64 f.orig.kind, .int .i64 f.back.proto, .int .i64 f.back.src, .int .i64 f.back.sport, .int .i64 f.back.dst, .int .i64 f.back.dport, .int .i64 f.back.kind, .int .i64 f.state, .bool f.seen, .bool f.sure, .int .i64 f.till, .int .i64 f.count] 35)).alloc (by simp) (.cells #[.int .i64 0, .int .i64 0, .int .i64 0, .int .i64 0, .int .i64 0, .int .i64 0] 33))
    go_enter Tryd.func16, Tryd.ntmps16
    go_upto_region 1 with fail
    generalize ((w.alloc (.cells #[.int .i64 f.orig.proto, .int .i64 f.orig.src, .int .i64 f.orig.sport, .int .i64 f.orig.dst, .int .i64 f.orig.dport, .int .i64 f.orig.kind, .int .i64 f.back.proto, .int .i64 f.back.src, .int .i64 f.back.sport, .int .i64 f.back.dst, .int .i64 f.back.dport, .int .i64 f.back.kind, .int .i64 f.state, .bool f.seen, .bool f.sure, .int .i64 f.till, .int .i64 f.count] 35)).alloc (.cells #[.int .i64 0, .int .i64 0, .int .i64 0, .int .i64 0, .int .i64 0, .int .i64 0] 33)) = w0 at hGF0 hGR0 hL0 ⊢
    have cF0 := blk_cell hGF0.out 0
    have cF1 := blk_cell hGF0.out 1
    have cF2 := blk_cell hGF0.out 2
    have cF3 := blk_cell hGF0.out 3
    have cF4 := blk_cell hGF0.out 4
    have cF5 := blk_cell hGF0.out 5
    have cF6 := blk_cell hGF0.out 6
    have cF7 := blk_cell hGF0.out 7
    have cF8 := blk_cell hGF0.out 8
    have cF9 := blk_cell hGF0.out 9
    have cF10 := blk_cell hGF0.out 10
    have cF11 := blk_cell hGF0.out 11
    have cF12 := blk_cell hGF0.out 12
    have cF13 := blk_cell hGF0.out 13
    have cF14 := blk_cell hGF0.out 14
    have cF15 := blk_cell hGF0.out 15
    have cF16 := blk_cell hGF0.out 16
    simp at cF0 cF1 cF2 cF3 cF4 cF5 cF6 cF7 cF8 cF9 cF10 cF11 cF12 cF13 cF14 cF15 cF16
    have kR := blk_cell hGR0.out
    have fR := blk_free hGR0.out
    go_wp2_with fail
    refine bodyPost_ret (v := .agg #[.int .i64 f.back.proto, .int .i64 f.back.src, .int .i64 f.back.sport, .int .i64 f.back.dst, .int .i64 f.back.dport, .int .i64 f.back.kind]) (by simp [results, Tryd.results16, go_sem, *]) rfl ⟨rfl, ?_⟩
    repeat (refine below_at ?_ (by omega))
    exact hL0.out
end Go.Proofs.YtbhemimhmkgfiaaDoor
