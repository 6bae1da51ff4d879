/- Proved here: spec.DrawInvert, spec.DrawTupleOf, spec.DrawTupleLess and spec.DrawWithTuple draw tuples and packets of at most 101 bytes of body; all old memory stays (condition: the bytes that are drawn from can be read, at most 2^20). -/
import Derived.Test.YtedknnkdnccfmaaGreatDoorTpSrc
import Derived.Test.YtedknnkdnccfmaaGreatDoorDrRes
import Derived.Test.YtedknnkdnccfmaaGreatDoorAll15
import Derived.Test.YtedknnkdnccfmaaGreatDoorTupOfSpec
import Derived.Test.YtedknnkdnccfmaaGreatDoorAll1
namespace Go.Proofs.YtedknnkdnccfmaaGreatDoor
open Go.ChangeShapes Go.WideShapes Go.ChangeAt Go.RowKit
set_option linter.unusedVariables false
set_option linter.unusedSimpArgs false
set_option maxRecDepth 100000

set_option maxHeartbeats 2000000 in
theorem drawInvert_any (a : Option Addr) (len cap : Nat) (w : World) (hR : RowAt w.heap.size a len w) (hl : len ≤ 1048576) :
    Calls Tryz.prog 20 #[.slice a len cap] w fun e w' => (∃ t : Tp, e = .returned (.agg #[.int .i64 t.proto, .int .i64 t.src, .int .i64 t.sport, .int .i64 t.dst, .int .i64 t.dport, .int .i64 t.kind])) ∧ Below w.heap.size w w' := by
  have hL0 := hidS ((Below.refl w.heap.size w).alloc (Nat.le_refl _) (.cells #[.int .i64 0, .int .i64 0, .int .i64 0, .int .i64 0, .int .i64 0, .int .i64 0] 40))
  have hRR := hidS hR
  have hR0 := hidS (hR.later hL0.out)
  have hG00 : Hid ((w.alloc (.cells #[.int .i64 0, .int .i64 0, .int .i64 0, .int .i64 0, .int .i64 0, .int .i64 0] 40)).heap[w.heap.size]? = some (.cells #[.int .i64 0, .int .i64 0, .int .i64 0, .int .i64 0, .int .i64 0, .int .i64 0] 40)) := by
    show _ = _
    have := heap_newG w (.cells #[.int .i64 0, .int .i64 0, .int .i64 0, .int .i64 0, .int .i64 0, .int .i64 0] 40)
    simpa using this
  clear hR
  go_enter Tryz.func20, Tryz.ntmps20
  go_wp2_with fail
  generalize w.alloc (.cells #[.int .i64 0, .int .i64 0, .int .i64 0, .int .i64 0, .int .i64 0, .int .i64 0] 40) = w1 at hL0 hR0 hG00 ⊢
  refine (source_any a len cap w1 hR0.out hl).mono ?_
  rintro _ w2 ⟨rfl, hS2, hb2⟩
  have l0 := blk_lt hG00.out
  have hG02 := hidS (blk_later hG00.out hb2)
  have hL2 := hidS (hL0.out.trans (hb2.mono hL0.out.size))
  have HS2 := hidS hS2
  clear hb2 hL0 hR0 hG00 hS2
  generalize w1.heap.size = B at *
  go_wp2_with fail
  refine (srcTuple_any B a len cap w2 HS2.out).mono ?_
  rintro _ w3 ⟨t, rfl, hS3, hg3⟩
  have hG03 := hidS ((hg3.block _ (blk_lt hG02.out) (fun e => by injection e with e; omega)).trans hG02.out)
  have hL3 := hidS (hL2.out.grown hg3 hL2.out.size (fun k e => by cases e; omega))
  have kR := blk_cell hG03.out
  have fR := blk_free hG03.out
  clear hg3 hL2 hG02 HS2 hS3 hG03
  go_wp2_with fail
  refine bodyPost_ret (v := .agg #[.int .i64 t.proto, .int .i64 t.src, .int .i64 t.sport, .int .i64 t.dst, .int .i64 t.dport, .int .i64 t.kind]) (by simp [results, Tryz.results20, go_sem, *]) rfl ⟨⟨t, rfl⟩, ?_⟩
  iterate 6 (refine below_at ?_ (by omega))
  exact hL3.out
set_option maxHeartbeats 2000000 in
theorem drawTupleOf_any (a : Option Addr) (len cap : Nat) (w : World) (hR : RowAt w.heap.size a len w) (hl : len ≤ 1048576) :
    Calls Tryz.prog 27 #[.slice a len cap] w fun e w' => (∃ p : Pk, e = .returned (.agg #[.int .i64 p.src, .int .i64 p.dst, .int .i64 p.proto, .int .i64 p.a, .int .i64 p.b, .int .i64 p.kind, .int .i64 p.flags, .int .i64 p.seq, .int .i64 p.ack, .string p.body]) ∧ p.body.size ≤ 101) ∧ Below w.heap.size w w' := by
  have hL0 := hidS ((Below.refl w.heap.size w).alloc (Nat.le_refl _) (.cells #[.int .i64 0, .int .i64 0, .int .i64 0, .int .i64 0, .int .i64 0, .int .i64 0, .int .i64 0, .int .i64 0, .int .i64 0, .string ⟨#[]⟩] 24))
  have hRR := hidS hR
  have hR0 := hidS (hR.later hL0.out)
  have hG00 : Hid ((w.alloc (.cells #[.int .i64 0, .int .i64 0, .int .i64 0, .int .i64 0, .int .i64 0, .int .i64 0, .int .i64 0, .int .i64 0, .int .i64 0, .string ⟨#[]⟩] 24)).heap[w.heap.size]? = some (.cells #[.int .i64 0, .int .i64 0, .int .i64 0, .int .i64 0, .int .i64 0, .int .i64 0, .int .i64 0, .int .i64 0, .int .i64 0, .string ⟨#[]⟩] 24)) := by
    show _ = _
    have := heap_newG w (.cells #[.int .i64 0, .int .i64 0, .int .i64 0, .int .i64 0, .int .i64 0, .int .i64 0, .int .i64 0, .int .i64 0, .int .i64 0, .string ⟨#[]⟩] 24)
    simpa using this
  clear hR
  go_enter Tryz.func27, Tryz.ntmps27
  go_wp2_with fail
  generalize w.alloc (.cells #[.int .i64 0, .int .i64 0, .int .i64 0, .int .i64 0, .int .i64 0, .int .i64 0, .int .i64 0, .int .i64 0, .int .i64 0, .string ⟨#[]⟩] 24) = w1 at hL0 hR0 hG00 ⊢
  refine (source_any a len cap w1 hR0.out hl).mono ?_
  rintro _ w2 ⟨rfl, hS2, hb2⟩
  have l0 := blk_lt hG00.out
  have hG02 := hidS (blk_later hG00.out hb2)
  have hL2 := hidS (hL0.out.trans (hb2.mono hL0.out.size))
  have HS2 := hidS hS2
  clear hb2 hL0 hR0 hG00 hS2
  generalize w1.heap.size = B at *
  go_wp2_with fail
  refine (srcSome_any B a len cap w2 HS2.out).mono ?_
  rintro _ w3 ⟨p, rfl, hp, hS3, hg3⟩
  have hG03 := hidS ((hg3.block _ (blk_lt hG02.out) (fun e => by injection e with e; omega)).trans hG02.out)
  have hL3 := hidS (hL2.out.grown hg3 hL2.out.size (fun k e => by cases e; omega))
  have kR := blk_cell hG03.out
  have fR := blk_free hG03.out
  clear hg3 hL2 hG02 HS2 hS3 hG03
  go_wp2_with fail
  refine bodyPost_ret (v := .agg #[.int .i64 p.src, .int .i64 p.dst, .int .i64 p.proto, .int .i64 p.a, .int .i64 p.b, .int .i64 p.kind, .int .i64 p.flags, .int .i64 p.seq, .int .i64 p.ack, .string p.body]) (by simp [results, Tryz.results27, go_sem, *]) rfl ⟨⟨p, rfl, hp⟩, ?_⟩
  iterate 10 (refine below_at ?_ (by omega))
  exact hL3.out
set_option maxHeartbeats 2000000 in
theorem drawTupleLess_any (a : Option Addr) (len cap : Nat) (w : World) (hR : RowAt w.heap.size a len w) (hl : len ≤ 1048576) :
    Calls Tryz.prog 22 #[.slice a len cap] w fun e w' => (∃ t u : Tp, e = .returned (.tuple #[.agg #[.int .i64 t.proto, .int .i64 t.src, .int .i64 t.sport, .int .i64 t.dst, .int .i64 t.dport, .int .i64 t.kind], .agg #[.int .i64 u.proto, .int .i64 u.src, .int .i64 u.sport, .int .i64 u.dst, .int .i64 u.dport, .int .i64 u.kind]])) ∧ Below w.heap.size w w' := by
  have hL0 := hidS (((Below.refl w.heap.size w).alloc (Nat.le_refl _) (.cells #[.int .i64 0, .int .i64 0, .int .i64 0, .int .i64 0, .int .i64 0, .int .i64 0] 40)).alloc (by simp) (.cells #[.int .i64 0, .int .i64 0, .int .i64 0, .int .i64 0, .int .i64 0, .int .i64 0] 40))
  have hRR := hidS hR
  have hR0 := hidS (hR.later hL0.out)
  have hG00 : Hid (((w.alloc (.cells #[.int .i64 0, .int .i64 0, .int .i64 0, .int .i64 0, .int .i64 0, .int .i64 0] 40)).alloc (.cells #[.int .i64 0, .int .i64 0, .int .i64 0, .int .i64 0, .int .i64 0, .int .i64 0] 40)).heap[w.heap.size]? = some (.cells #[.int .i64 0, .int .i64 0, .int .i64 0, .int .i64 0, .int .i64 0, .int .i64 0] 40)) := by
    show _ = _
    have := blk_alloc (heap_newG w (.cells #[.int .i64 0, .int .i64 0, .int .i64 0, .int .i64 0, .int .i64 0, .int .i64 0] 40)) (.cells #[.int .i64 0, .int .i64 0, .int .i64 0, .int .i64 0, .int .i64 0, .int .i64 0] 40)
    simpa using this
  have hG10 : Hid (((w.alloc (.cells #[.int .i64 0, .int .i64 0, .int .i64 0, .int .i64 0, .int .i64 0, .int .i64 0] 40)).alloc (.cells #[.int .i64 0, .int .i64 0, .int .i64 0, .int .i64 0, .int .i64 0, .int .i64 0] 40)).heap[w.heap.size + 1]? = some (.cells #[.int .i64 0, .int .i64 0, .int .i64 0, .int .i64 0, .int .i64 0, .int .i64 0] 40)) := by
    show _ = _
    have := heap_newG (w.alloc (.cells #[.int .i64 0, .int .i64 0, .int .i64 0, .int .i64 0, .int .i64 0, .int .i64 0] 40)) (.cells #[.int .i64 0, .int .i64 0, .int .i64 0, .int .i64 0, .int .i64 0, .int .i64 0] 40)
    simpa using this
  clear hR
  go_enter Tryz.func22, Tryz.ntmps22
  go_wp2_with fail
  generalize (w.alloc (.cells #[.int .i64 0, .int .i64 0, .int .i64 0, .int .i64 0, .int .i64 0, .int .i64 0] 40)).alloc (.cells #[.int .i64 0, .int .i64 0, .int .i64 0, .int .i64 0, .int .i64 0, .int .i64 0] 40) = w1 at hL0 hR0 hG00 hG10 ⊢
  refine (source_any a len cap w1 hR0.out hl).mono ?_
  rintro _ w2 ⟨rfl, hS2, hb2⟩
  have l0 := blk_lt hG00.out
  have hG02 := hidS (blk_later hG00.out hb2)
  have l1 := blk_lt hG10.out
  have hG12 := hidS (blk_later hG10.out hb2)
  have hL2 := hidS (hL0.out.trans (hb2.mono hL0.out.size))
  have HS2 := hidS hS2
  clear hb2 hL0 hR0 hG00 hG10 hS2
  generalize w1.heap.size = B at *
  go_wp2_with fail
  refine (srcTuple_any B a len cap w2 HS2.out).mono ?_
  rintro _ w3 ⟨t, rfl, hS3, hg3⟩
  have hG03 := hidS ((hg3.block _ (blk_lt hG02.out) (fun e => by injection e with e; omega)).trans hG02.out)
  have hG13 := hidS ((hg3.block _ (blk_lt hG12.out) (fun e => by injection e with e; omega)).trans hG12.out)
  have hL3 := hidS (hL2.out.grown hg3 hL2.out.size (fun k e => by cases e; omega))
  have hBl := hS3.lt
  have hS4 := hidS (hS3.kept (w' := w3.alloc (.cells #[.int .i64 t.proto, .int .i64 t.src, .int .i64 t.sport, .int .i64 t.dst, .int .i64 t.dport, .int .i64 t.kind] 40)) fun k hk => Below.heap_alloc _ _ _ (by omega))
  have hL4 := hidS (hL3.out.alloc hL3.out.size (.cells #[.int .i64 t.proto, .int .i64 t.src, .int .i64 t.sport, .int .i64 t.dst, .int .i64 t.dport, .int .i64 t.kind] 40))
  have hG04 := hidS (blk_alloc hG03.out (.cells #[.int .i64 t.proto, .int .i64 t.src, .int .i64 t.sport, .int .i64 t.dst, .int .i64 t.dport, .int .i64 t.kind] 40))
  have hG14 := hidS (blk_alloc hG13.out (.cells #[.int .i64 t.proto, .int .i64 t.src, .int .i64 t.sport, .int .i64 t.dst, .int .i64 t.dport, .int .i64 t.kind] 40))
  have hT4 := hidS (heap_newG w3 (.cells #[.int .i64 t.proto, .int .i64 t.src, .int .i64 t.sport, .int .i64 t.dst, .int .i64 t.dport, .int .i64 t.kind] 40))
  have lg : w.heap.size + 1 < w3.heap.size := blk_lt hG13.out
  clear hg3 hL2 hG02 hG12 HS2 hS3 hL3 hG03 hG13
  go_upto_region 3 with fail
  generalize w3.alloc (.cells #[.int .i64 t.proto, .int .i64 t.src, .int .i64 t.sport, .int .i64 t.dst, .int .i64 t.dport, .int .i64 t.kind] 40) = w4 at hS4 hL4 hG04 hG14 hT4 ⊢
  generalize w3.heap.size = g at *
  go_wp2_with fail
  refine (srcOne_any B a len cap 6 w4 hS4.out (by omega)).mono ?_
  rintro _ w5 ⟨c, rfl, hS5, hO5⟩
  have hg5 := hO5.grown
  have hG05 := hidS ((hg5.block _ (blk_lt hG04.out) (fun e => by injection e with e; omega)).trans hG04.out)
  have hG15 := hidS ((hg5.block _ (blk_lt hG14.out) (fun e => by injection e with e; omega)).trans hG14.out)
  have hL5 := hidS (hL4.out.grown hg5 hL4.out.size (fun k e => by cases e; omega))
  have hT5 := hidS ((hg5.block _ (blk_lt hT4.out) (fun e => by injection e with e; omega)).trans hT4.out)
  have HS5 := hidS hS5
  clear hO5 hg5 hS4 hL4 hG04 hG14 hT4 hS5
  have hK : Hid (DrOk B a len w [(g, .cells #[.int .i64 t.proto, .int .i64 t.src, .int .i64 t.sport, .int .i64 t.dst, .int .i64 t.dport, .int .i64 t.kind] 40)] [(w.heap.size, 40, (fun cs : Array Value => ∃ q : Tp, cs = #[.int .i64 q.proto, .int .i64 q.src, .int .i64 q.sport, .int .i64 q.dst, .int .i64 q.dport, .int .i64 q.kind])), (w.heap.size + 1, 40, (fun cs : Array Value => ∃ q : Tp, cs = #[.int .i64 q.proto, .int .i64 q.src, .int .i64 q.sport, .int .i64 q.dst, .int .i64 q.dport, .int .i64 q.kind]))]) := by
    refine ⟨hRR.out, by omega, ?_, ?_, ?_⟩ <;> intro x hx <;> simp at hx
    all_goals (first | (subst hx) | (rcases hx with rfl | rfl))
    all_goals (first | (constructor <;> (simp <;> omega)) | (simp; omega) | (intro y hy; simp at hy; rcases hy with rfl | rfl <;> simp <;> omega) | (intro y hy; simp at hy; subst hy; simp; omega))
  have hC0 : Hid (DrC B a len cap w [(g, .cells #[.int .i64 t.proto, .int .i64 t.src, .int .i64 t.sport, .int .i64 t.dst, .int .i64 t.dport, .int .i64 t.kind] 40)] [(w.heap.size, 40, (fun cs : Array Value => ∃ q : Tp, cs = #[.int .i64 q.proto, .int .i64 q.src, .int .i64 q.sport, .int .i64 q.dst, .int .i64 q.dport, .int .i64 q.kind])), (w.heap.size + 1, 40, (fun cs : Array Value => ∃ q : Tp, cs = #[.int .i64 q.proto, .int .i64 q.src, .int .i64 q.sport, .int .i64 q.dst, .int .i64 q.dport, .int .i64 q.kind]))] w5.drew) := by
    refine ⟨HS5.out, hL5.out.drew, fun x hx => ?_, fun x hx => ?_⟩
    · simp at hx; subst hx; exact hT5.out
    · simp at hx; rcases hx with rfl | rfl; exact ⟨_, ⟨zeroTp, rfl⟩, hG05.out⟩; exact ⟨_, ⟨zeroTp, rfl⟩, hG15.out⟩
  clear HS5 hL5 hG05 hG15 hT5
  cases c
  · go_wp2_with fail
    refine grow_res (DrC B a len cap w [(g, .cells #[.int .i64 t.proto, .int .i64 t.src, .int .i64 t.sport, .int .i64 t.dst, .int .i64 t.dport, .int .i64 t.kind] 40)] [(w.heap.size, 40, (fun cs : Array Value => ∃ q : Tp, cs = #[.int .i64 q.proto, .int .i64 q.src, .int .i64 q.sport, .int .i64 q.dst, .int .i64 q.dport, .int .i64 q.kind])), (w.heap.size + 1, 40, (fun cs : Array Value => ∃ q : Tp, cs = #[.int .i64 q.proto, .int .i64 q.src, .int .i64 q.sport, .int .i64 q.dst, .int .i64 q.dport, .int .i64 q.kind]))]) (DrR B [(w.heap.size, 40, (fun cs : Array Value => ∃ q : Tp, cs = #[.int .i64 q.proto, .int .i64 q.src, .int .i64 q.sport, .int .i64 q.dst, .int .i64 q.dport, .int .i64 q.kind])), (w.heap.size + 1, 40, (fun cs : Array Value => ∃ q : Tp, cs = #[.int .i64 q.proto, .int .i64 q.src, .int .i64 q.sport, .int .i64 q.dst, .int .i64 q.dport, .int .i64 q.kind]))]) (kpOf [isP (.agg #[.int .i64 t.proto, .int .i64 t.src, .int .i64 t.sport, .int .i64 t.dst, .int .i64 t.dport, .int .i64 t.kind]), isP (.pointer (some ⟨B, 0, none⟩)), (fun v _ => ∃ q : Tp, v = .agg #[.int .i64 q.proto, .int .i64 q.src, .int .i64 q.sport, .int .i64 q.dst, .int .i64 q.dport, .int .i64 q.kind]), anyP, anyP]) (by kernel_rfl) (by kernel_rfl) (all_lastR _ ⟨pure_last, pure_last, pure_last, pure_last, pure_last, trivial⟩) hC0.out ?steps ?fin
    case steps =>
      refine ⟨?_, ?_, ?_, ?_, ?_, trivial⟩
      · refine ⟨rfl, fun v W ρ hC kc kf ks ki kd => ?_⟩
        have t5 : ρ (.tmp 5) = .pointer (some ⟨g, 0, none⟩) := ki 5 (by decide)
        have hg := hC.fix (g, .cells #[.int .i64 t.proto, .int .i64 t.src, .int .i64 t.sport, .int .i64 t.dst, .int .i64 t.dport, .int .i64 t.kind] 40) (by simp)
        have c0 := blk_cell hg 0
        have c1 := blk_cell hg 1
        have c2 := blk_cell hg 2
        have c3 := blk_cell hg 3
        have c4 := blk_cell hg 4
        have c5 := blk_cell hg 5
        simp at c0 c1 c2 c3 c4 c5
        simp [execOp, go_sem, t5, c0, c1, c2, c3, c4, c5]
        simp only [RanS]
        exact ⟨hC, DrR.refl _, rfl⟩
      · refine ⟨rfl, fun v W ρ hC kc kf ks ki kd => ?_⟩
        have t4 : ρ (.tmp 4) = .pointer (some ⟨B, 0, none⟩) := ki 4 (by decide)
        simp [execOp, go_sem, t4]
        simp only [RanS]
        exact ⟨hC, DrR.refl _, rfl⟩
      · refine ⟨rfl, fun v W ρ hC kc kf ks ki kd => ?_⟩
        have d1 : v 1 = .pointer (some ⟨B, 0, none⟩) := by first | exact kd _ (Array.mem_of_getElem? (i := 0) rfl) rfl | exact kd _ (Array.mem_of_getElem? (i := 1) rfl) rfl | exact kd _ (Array.mem_of_getElem? (i := 2) rfl) rfl | exact kd _ (Array.mem_of_getElem? (i := 3) rfl) rfl
        have t15 : ρ (.tmp 15) = .pointer (some ⟨B, 0, none⟩) := (ks 1 15 (by decide) rfl).trans d1
        simp [execOp, go_sem, t15, kf]
        simp only [RanS]
        refine Calls.mono (srcTuple_any B a len cap W hC.src) (fun e x h => ?_)
        obtain ⟨q, rfl, h3, h4⟩ := h
        obtain ⟨q1, q2⟩ := hC.grown hK.out h3 h4
        exact ⟨_, rfl, q1, q2, q, rfl⟩
      · refine ⟨rfl, fun v W ρ hC kc kf ks ki kd => ?_⟩
        have d0 : v 0 = .agg #[.int .i64 t.proto, .int .i64 t.src, .int .i64 t.sport, .int .i64 t.dst, .int .i64 t.dport, .int .i64 t.kind] := by first | exact kd _ (Array.mem_of_getElem? (i := 0) rfl) rfl | exact kd _ (Array.mem_of_getElem? (i := 1) rfl) rfl | exact kd _ (Array.mem_of_getElem? (i := 2) rfl) rfl | exact kd _ (Array.mem_of_getElem? (i := 3) rfl) rfl
        have t14 : ρ (.tmp 14) = .agg #[.int .i64 t.proto, .int .i64 t.src, .int .i64 t.sport, .int .i64 t.dst, .int .i64 t.dport, .int .i64 t.kind] := (ks 0 14 (by decide) rfl).trans d0
        have t2 : ρ (.tmp 2) = .pointer (some ⟨w.heap.size, 0, none⟩) := ki 2 (by decide)
        have hz : ∀ cs, (fun cs : Array Value => ∃ q : Tp, cs = #[.int .i64 q.proto, .int .i64 q.src, .int .i64 q.sport, .int .i64 q.dst, .int .i64 q.dport, .int .i64 q.kind]) cs → cs.size = 6 := fun cs h => by obtain ⟨q, h⟩ := h; first | (subst h; rfl) | (rw [h.1]; rfl)
        have hth := hC.there (w.heap.size) 40 (fun cs : Array Value => ∃ q : Tp, cs = #[.int .i64 q.proto, .int .i64 q.src, .int .i64 q.sport, .int .i64 q.dst, .int .i64 q.dport, .int .i64 q.kind]) 6 (by simp) hz
        have hrun := run_storeAt_mid (P := Tryz.prog) W (w.heap.size) 0 40 #[.int .i64 t.proto, .int .i64 t.src, .int .i64 t.sport, .int .i64 t.dst, .int .i64 t.dport, .int .i64 t.kind] hth (by kernel_rfl) (by simp [Value.oneCell'])
        obtain ⟨q1, q2⟩ := hC.store hK.out (w.heap.size) 40 (fun cs : Array Value => ∃ q : Tp, cs = #[.int .i64 q.proto, .int .i64 q.src, .int .i64 q.sport, .int .i64 q.dst, .int .i64 q.dport, .int .i64 q.kind]) #[.int .i64 t.proto, .int .i64 t.src, .int .i64 t.sport, .int .i64 t.dst, .int .i64 t.dport, .int .i64 t.kind] (by simp) (fun y hy e => by simp at hy; rcases hy with rfl | rfl <;> simp at e ⊢) ⟨t, rfl⟩ hz
        simp only [execOp, t2, t14, Sem.run_bind, hrun, Result.andThen_ok, Sem.run_pure]
        simp only [RanS]
        exact ⟨q1, q2, trivial⟩
      · refine ⟨rfl, fun v W ρ hC kc kf ks ki kd => ?_⟩
        obtain ⟨q2, d2⟩ : ∃ q : Tp, v 2 = .agg #[.int .i64 q.proto, .int .i64 q.src, .int .i64 q.sport, .int .i64 q.dst, .int .i64 q.dport, .int .i64 q.kind] := by first | exact kd _ (Array.mem_of_getElem? (i := 0) rfl) rfl | exact kd _ (Array.mem_of_getElem? (i := 1) rfl) rfl | exact kd _ (Array.mem_of_getElem? (i := 2) rfl) rfl | exact kd _ (Array.mem_of_getElem? (i := 3) rfl) rfl
        have t16 : ρ (.tmp 16) = .agg #[.int .i64 q2.proto, .int .i64 q2.src, .int .i64 q2.sport, .int .i64 q2.dst, .int .i64 q2.dport, .int .i64 q2.kind] := (ks 2 16 (by decide) rfl).trans d2
        have t3 : ρ (.tmp 3) = .pointer (some ⟨w.heap.size + 1, 0, none⟩) := ki 3 (by decide)
        have hz : ∀ cs, (fun cs : Array Value => ∃ q : Tp, cs = #[.int .i64 q.proto, .int .i64 q.src, .int .i64 q.sport, .int .i64 q.dst, .int .i64 q.dport, .int .i64 q.kind]) cs → cs.size = 6 := fun cs h => by obtain ⟨q, h⟩ := h; first | (subst h; rfl) | (rw [h.1]; rfl)
        have hth := hC.there (w.heap.size + 1) 40 (fun cs : Array Value => ∃ q : Tp, cs = #[.int .i64 q.proto, .int .i64 q.src, .int .i64 q.sport, .int .i64 q.dst, .int .i64 q.dport, .int .i64 q.kind]) 6 (by simp) hz
        have hrun := run_storeAt_mid (P := Tryz.prog) W (w.heap.size + 1) 0 40 #[.int .i64 q2.proto, .int .i64 q2.src, .int .i64 q2.sport, .int .i64 q2.dst, .int .i64 q2.dport, .int .i64 q2.kind] hth (by kernel_rfl) (by simp [Value.oneCell'])
        obtain ⟨q1, q2⟩ := hC.store hK.out (w.heap.size + 1) 40 (fun cs : Array Value => ∃ q : Tp, cs = #[.int .i64 q.proto, .int .i64 q.src, .int .i64 q.sport, .int .i64 q.dst, .int .i64 q.dport, .int .i64 q.kind]) #[.int .i64 q2.proto, .int .i64 q2.src, .int .i64 q2.sport, .int .i64 q2.dst, .int .i64 q2.dport, .int .i64 q2.kind] (by simp) (fun y hy e => by simp at hy; rcases hy with rfl | rfl <;> simp at e ⊢) ⟨q2, rfl⟩ hz
        simp only [execOp, t3, t16, Sem.run_bind, hrun, Result.andThen_ok, Sem.run_pure]
        simp only [RanS]
        exact ⟨q1, q2, trivial⟩
    case fin =>
      intro v W hC hall
      obtain ⟨x0, ⟨q0, rfl⟩, hr0⟩ := hC.res (w.heap.size, 40, (fun cs : Array Value => ∃ q : Tp, cs = #[.int .i64 q.proto, .int .i64 q.src, .int .i64 q.sport, .int .i64 q.dst, .int .i64 q.dport, .int .i64 q.kind])) (by simp)
      obtain ⟨x1, ⟨q1, rfl⟩, hr1⟩ := hC.res (w.heap.size + 1, 40, (fun cs : Array Value => ∃ q : Tp, cs = #[.int .i64 q.proto, .int .i64 q.src, .int .i64 q.sport, .int .i64 q.dst, .int .i64 q.dport, .int .i64 q.kind])) (by simp)
      have HB := hidS hC.bel
      simp [upto, Act.put]
      have k0 := blk_cell hr0
      have k1 := blk_cell hr1
      clear hC hall hr0 hr1 hC0 hK
      go_wp2_with fail
      exact bodyPost_ret (v := .tuple #[.agg #[.int .i64 q0.proto, .int .i64 q0.src, .int .i64 q0.sport, .int .i64 q0.dst, .int .i64 q0.dport, .int .i64 q0.kind], .agg #[.int .i64 q1.proto, .int .i64 q1.src, .int .i64 q1.sport, .int .i64 q1.dst, .int .i64 q1.dport, .int .i64 q1.kind]]) (by simp [results, Tryz.results22, go_sem, *]) rfl ⟨⟨q0, q1, rfl⟩, HB.out⟩
  · go_wp2_with fail
    refine grow_res (DrC B a len cap w [(g, .cells #[.int .i64 t.proto, .int .i64 t.src, .int .i64 t.sport, .int .i64 t.dst, .int .i64 t.dport, .int .i64 t.kind] 40)] [(w.heap.size, 40, (fun cs : Array Value => ∃ q : Tp, cs = #[.int .i64 q.proto, .int .i64 q.src, .int .i64 q.sport, .int .i64 q.dst, .int .i64 q.dport, .int .i64 q.kind])), (w.heap.size + 1, 40, (fun cs : Array Value => ∃ q : Tp, cs = #[.int .i64 q.proto, .int .i64 q.src, .int .i64 q.sport, .int .i64 q.dst, .int .i64 q.dport, .int .i64 q.kind]))]) (DrR B [(w.heap.size, 40, (fun cs : Array Value => ∃ q : Tp, cs = #[.int .i64 q.proto, .int .i64 q.src, .int .i64 q.sport, .int .i64 q.dst, .int .i64 q.dport, .int .i64 q.kind])), (w.heap.size + 1, 40, (fun cs : Array Value => ∃ q : Tp, cs = #[.int .i64 q.proto, .int .i64 q.src, .int .i64 q.sport, .int .i64 q.dst, .int .i64 q.dport, .int .i64 q.kind]))]) (kpOf [isP (.agg #[.int .i64 t.proto, .int .i64 t.src, .int .i64 t.sport, .int .i64 t.dst, .int .i64 t.dport, .int .i64 t.kind]), isP (.agg #[.int .i64 t.proto, .int .i64 t.src, .int .i64 t.sport, .int .i64 t.dst, .int .i64 t.dport, .int .i64 t.kind]), anyP, anyP]) (by kernel_rfl) (by kernel_rfl) (all_lastR _ ⟨pure_last, pure_last, pure_last, pure_last, trivial⟩) hC0.out ?steps ?fin
    case steps =>
      refine ⟨?_, ?_, ?_, ?_, trivial⟩
      · refine ⟨rfl, fun v W ρ hC kc kf ks ki kd => ?_⟩
        have t5 : ρ (.tmp 5) = .pointer (some ⟨g, 0, none⟩) := ki 5 (by decide)
        have hg := hC.fix (g, .cells #[.int .i64 t.proto, .int .i64 t.src, .int .i64 t.sport, .int .i64 t.dst, .int .i64 t.dport, .int .i64 t.kind] 40) (by simp)
        have c0 := blk_cell hg 0
        have c1 := blk_cell hg 1
        have c2 := blk_cell hg 2
        have c3 := blk_cell hg 3
        have c4 := blk_cell hg 4
        have c5 := blk_cell hg 5
        simp at c0 c1 c2 c3 c4 c5
        simp [execOp, go_sem, t5, c0, c1, c2, c3, c4, c5]
        simp only [RanS]
        exact ⟨hC, DrR.refl _, rfl⟩
      · refine ⟨rfl, fun v W ρ hC kc kf ks ki kd => ?_⟩
        have t5 : ρ (.tmp 5) = .pointer (some ⟨g, 0, none⟩) := ki 5 (by decide)
        have hg := hC.fix (g, .cells #[.int .i64 t.proto, .int .i64 t.src, .int .i64 t.sport, .int .i64 t.dst, .int .i64 t.dport, .int .i64 t.kind] 40) (by simp)
        have c0 := blk_cell hg 0
        have c1 := blk_cell hg 1
        have c2 := blk_cell hg 2
        have c3 := blk_cell hg 3
        have c4 := blk_cell hg 4
        have c5 := blk_cell hg 5
        simp at c0 c1 c2 c3 c4 c5
        simp [execOp, go_sem, t5, c0, c1, c2, c3, c4, c5]
        simp only [RanS]
        exact ⟨hC, DrR.refl _, rfl⟩
      · refine ⟨rfl, fun v W ρ hC kc kf ks ki kd => ?_⟩
        have d0 : v 0 = .agg #[.int .i64 t.proto, .int .i64 t.src, .int .i64 t.sport, .int .i64 t.dst, .int .i64 t.dport, .int .i64 t.kind] := by first | exact kd _ (Array.mem_of_getElem? (i := 0) rfl) rfl | exact kd _ (Array.mem_of_getElem? (i := 1) rfl) rfl | exact kd _ (Array.mem_of_getElem? (i := 2) rfl) rfl | exact kd _ (Array.mem_of_getElem? (i := 3) rfl) rfl
        have t12 : ρ (.tmp 12) = .agg #[.int .i64 t.proto, .int .i64 t.src, .int .i64 t.sport, .int .i64 t.dst, .int .i64 t.dport, .int .i64 t.kind] := (ks 0 12 (by decide) rfl).trans d0
        have t2 : ρ (.tmp 2) = .pointer (some ⟨w.heap.size, 0, none⟩) := ki 2 (by decide)
        have hz : ∀ cs, (fun cs : Array Value => ∃ q : Tp, cs = #[.int .i64 q.proto, .int .i64 q.src, .int .i64 q.sport, .int .i64 q.dst, .int .i64 q.dport, .int .i64 q.kind]) cs → cs.size = 6 := fun cs h => by obtain ⟨q, h⟩ := h; first | (subst h; rfl) | (rw [h.1]; rfl)
        have hth := hC.there (w.heap.size) 40 (fun cs : Array Value => ∃ q : Tp, cs = #[.int .i64 q.proto, .int .i64 q.src, .int .i64 q.sport, .int .i64 q.dst, .int .i64 q.dport, .int .i64 q.kind]) 6 (by simp) hz
        have hrun := run_storeAt_mid (P := Tryz.prog) W (w.heap.size) 0 40 #[.int .i64 t.proto, .int .i64 t.src, .int .i64 t.sport, .int .i64 t.dst, .int .i64 t.dport, .int .i64 t.kind] hth (by kernel_rfl) (by simp [Value.oneCell'])
        obtain ⟨q1, q2⟩ := hC.store hK.out (w.heap.size) 40 (fun cs : Array Value => ∃ q : Tp, cs = #[.int .i64 q.proto, .int .i64 q.src, .int .i64 q.sport, .int .i64 q.dst, .int .i64 q.dport, .int .i64 q.kind]) #[.int .i64 t.proto, .int .i64 t.src, .int .i64 t.sport, .int .i64 t.dst, .int .i64 t.dport, .int .i64 t.kind] (by simp) (fun y hy e => by simp at hy; rcases hy with rfl | rfl <;> simp at e ⊢) ⟨t, rfl⟩ hz
        simp only [execOp, t2, t12, Sem.run_bind, hrun, Result.andThen_ok, Sem.run_pure]
        simp only [RanS]
        exact ⟨q1, q2, trivial⟩
      · refine ⟨rfl, fun v W ρ hC kc kf ks ki kd => ?_⟩
        have d1 : v 1 = .agg #[.int .i64 t.proto, .int .i64 t.src, .int .i64 t.sport, .int .i64 t.dst, .int .i64 t.dport, .int .i64 t.kind] := by first | exact kd _ (Array.mem_of_getElem? (i := 0) rfl) rfl | exact kd _ (Array.mem_of_getElem? (i := 1) rfl) rfl | exact kd _ (Array.mem_of_getElem? (i := 2) rfl) rfl | exact kd _ (Array.mem_of_getElem? (i := 3) rfl) rfl
        have t13 : ρ (.tmp 13) = .agg #[.int .i64 t.proto, .int .i64 t.src, .int .i64 t.sport, .int .i64 t.dst, .int .i64 t.dport, .int .i64 t.kind] := (ks 1 13 (by decide) rfl).trans d1
        have t3 : ρ (.tmp 3) = .pointer (some ⟨w.heap.size + 1, 0, none⟩) := ki 3 (by decide)
        have hz : ∀ cs, (fun cs : Array Value => ∃ q : Tp, cs = #[.int .i64 q.proto, .int .i64 q.src, .int .i64 q.sport, .int .i64 q.dst, .int .i64 q.dport, .int .i64 q.kind]) cs → cs.size = 6 := fun cs h => by obtain ⟨q, h⟩ := h; first | (subst h; rfl) | (rw [h.1]; rfl)
        have hth := hC.there (w.heap.size + 1) 40 (fun cs : Array Value => ∃ q : Tp, cs = #[.int .i64 q.proto, .int .i64 q.src, .int .i64 q.sport, .int .i64 q.dst, .int .i64 q.dport, .int .i64 q.kind]) 6 (by simp) hz
        have hrun := run_storeAt_mid (P := Tryz.prog) W (w.heap.size + 1) 0 40 #[.int .i64 t.proto, .int .i64 t.src, .int .i64 t.sport, .int .i64 t.dst, .int .i64 t.dport, .int .i64 t.kind] hth (by kernel_rfl) (by simp [Value.oneCell'])
        obtain ⟨q1, q2⟩ := hC.store hK.out (w.heap.size + 1) 40 (fun cs : Array Value => ∃ q : Tp, cs = #[.int .i64 q.proto, .int .i64 q.src, .int .i64 q.sport, .int .i64 q.dst, .int .i64 q.dport, .int .i64 q.kind]) #[.int .i64 t.proto, .int .i64 t.src, .int .i64 t.sport, .int .i64 t.dst, .int .i64 t.dport, .int .i64 t.kind] (by simp) (fun y hy e => by simp at hy; rcases hy with rfl | rfl <;> simp at e ⊢) ⟨t, rfl⟩ hz
        simp only [execOp, t3, t13, Sem.run_bind, hrun, Result.andThen_ok, Sem.run_pure]
        simp only [RanS]
        exact ⟨q1, q2, trivial⟩
    case fin =>
      intro v W hC hall
      obtain ⟨x0, ⟨q0, rfl⟩, hr0⟩ := hC.res (w.heap.size, 40, (fun cs : Array Value => ∃ q : Tp, cs = #[.int .i64 q.proto, .int .i64 q.src, .int .i64 q.sport, .int .i64 q.dst, .int .i64 q.dport, .int .i64 q.kind])) (by simp)
      obtain ⟨x1, ⟨q1, rfl⟩, hr1⟩ := hC.res (w.heap.size + 1, 40, (fun cs : Array Value => ∃ q : Tp, cs = #[.int .i64 q.proto, .int .i64 q.src, .int .i64 q.sport, .int .i64 q.dst, .int .i64 q.dport, .int .i64 q.kind])) (by simp)
      have HB := hidS hC.bel
      simp [upto, Act.put]
      have k0 := blk_cell hr0
      have k1 := blk_cell hr1
      clear hC hall hr0 hr1 hC0 hK
      go_wp2_with fail
      exact bodyPost_ret (v := .tuple #[.agg #[.int .i64 q0.proto, .int .i64 q0.src, .int .i64 q0.sport, .int .i64 q0.dst, .int .i64 q0.dport, .int .i64 q0.kind], .agg #[.int .i64 q1.proto, .int .i64 q1.src, .int .i64 q1.sport, .int .i64 q1.dst, .int .i64 q1.dport, .int .i64 q1.kind]]) (by simp [results, Tryz.results22, go_sem, *]) rfl ⟨⟨q0, q1, rfl⟩, HB.out⟩
end Go.Proofs.YtedknnkdnccfmaaGreatDoor
