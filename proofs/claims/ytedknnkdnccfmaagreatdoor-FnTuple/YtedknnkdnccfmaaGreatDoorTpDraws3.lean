/- Proved here: spec.DrawWithTuple draws a packet of at most 101 bytes of body and a tuple; all old memory stays (condition: the bytes that are drawn from can be read, at most 2^20). -/
import Derived.Test.YtedknnkdnccfmaaGreatDoorTpDraws
namespace Go.Proofs.YtedknnkdnccfmaaGreatDoor
open Go.ChangeShapes Go.WideShapes Go.ChangeAt Go.RowKit
set_option linter.unusedVariables false
set_option linter.unusedSimpArgs false
set_option maxRecDepth 100000

theorem set6 (W : World) (h : Nat) (t u : Tp) (hT : W.heap[h]? = some (.cells #[.int .i64 t.proto, .int .i64 t.src, .int .i64 t.sport, .int .i64 t.dst, .int .i64 t.dport, .int .i64 t.kind] 40)) : ((((((W.setCell ⟨h, 0, none⟩ (.int .i64 u.proto)).setCell ⟨h, 1, none⟩ (.int .i64 u.src)).setCell ⟨h, 2, none⟩ (.int .i64 u.sport)).setCell ⟨h, 3, none⟩ (.int .i64 u.dst)).setCell ⟨h, 4, none⟩ (.int .i64 u.dport)).setCell ⟨h, 5, none⟩ (.int .i64 u.kind)).heap[h]? = some (.cells #[.int .i64 u.proto, .int .i64 u.src, .int .i64 u.sport, .int .i64 u.dst, .int .i64 u.dport, .int .i64 u.kind] 40) ∧ (∀ i, i ≠ h → ((((((W.setCell ⟨h, 0, none⟩ (.int .i64 u.proto)).setCell ⟨h, 1, none⟩ (.int .i64 u.src)).setCell ⟨h, 2, none⟩ (.int .i64 u.sport)).setCell ⟨h, 3, none⟩ (.int .i64 u.dst)).setCell ⟨h, 4, none⟩ (.int .i64 u.dport)).setCell ⟨h, 5, none⟩ (.int .i64 u.kind)).heap[i]? = W.heap[i]?) ∧ ∀ D, D ≤ h → Below D W ((((((W.setCell ⟨h, 0, none⟩ (.int .i64 u.proto)).setCell ⟨h, 1, none⟩ (.int .i64 u.src)).setCell ⟨h, 2, none⟩ (.int .i64 u.sport)).setCell ⟨h, 3, none⟩ (.int .i64 u.dst)).setCell ⟨h, 4, none⟩ (.int .i64 u.dport)).setCell ⟨h, 5, none⟩ (.int .i64 u.kind)) := by
  refine ⟨?_, fun i hi => ?_, fun D hD => ?_⟩
  · have := blk_set (blk_set (blk_set (blk_set (blk_set (blk_set hT 0 (.int .i64 u.proto)) 1 (.int .i64 u.src)) 2 (.int .i64 u.sport)) 3 (.int .i64 u.dst)) 4 (.int .i64 u.dport)) 5 (.int .i64 u.kind)
    simpa using this
  · iterate 6 (rw [Below.heap_setCell _ _ _ _ (show i ≠ _ from hi)])
  · iterate 6 (refine Below.setCell (p := ⟨h, _, none⟩) ?_ hD _)
    exact Below.refl _ _
/-- some packet and some tuple -/
def SomePT (e : Ending) : Prop := ∃ (p : Pk) (t : Tp), e = .returned (.tuple #[.agg #[.int .i64 p.src, .int .i64 p.dst, .int .i64 p.proto, .int .i64 p.a, .int .i64 p.b, .int .i64 p.kind, .int .i64 p.flags, .int .i64 p.seq, .int .i64 p.ack, .string p.body], .agg #[.int .i64 t.proto, .int .i64 t.src, .int .i64 t.sport, .int .i64 t.dst, .int .i64 t.dport, .int .i64 t.kind]]) ∧ p.body.size ≤ 101
set_option maxHeartbeats 4000000 in
theorem drawWithTuple_any (a : Option Addr) (len cap : Nat) (w : World) (hR : RowAt w.heap.size a len w) (hl : len ≤ 1048576) :
    Calls Tryz.prog 23 #[.slice a len cap] w fun e w' => SomePT e ∧ Below w.heap.size w w' := by
  have hL0 := hidS (((Below.refl w.heap.size w).alloc (Nat.le_refl _) (.cells #[.int .i64 0, .int .i64 0, .int .i64 0, .int .i64 0, .int .i64 0, .int .i64 0, .int .i64 0, .int .i64 0, .int .i64 0, .string ⟨#[]⟩] 24)).alloc (by simp) (.cells #[.int .i64 0, .int .i64 0, .int .i64 0, .int .i64 0, .int .i64 0, .int .i64 0] 40))
  have hRR := hidS hR
  have hR0 := hidS (hR.later hL0.out)
  have hG00 : Hid (((w.alloc (.cells #[.int .i64 0, .int .i64 0, .int .i64 0, .int .i64 0, .int .i64 0, .int .i64 0, .int .i64 0, .int .i64 0, .int .i64 0, .string ⟨#[]⟩] 24)).alloc (.cells #[.int .i64 0, .int .i64 0, .int .i64 0, .int .i64 0, .int .i64 0, .int .i64 0] 40)).heap[w.heap.size]? = some (.cells #[.int .i64 0, .int .i64 0, .int .i64 0, .int .i64 0, .int .i64 0, .int .i64 0, .int .i64 0, .int .i64 0, .int .i64 0, .string ⟨#[]⟩] 24)) := by
    show _ = _
    have := blk_alloc (heap_newG w (.cells #[.int .i64 0, .int .i64 0, .int .i64 0, .int .i64 0, .int .i64 0, .int .i64 0, .int .i64 0, .int .i64 0, .int .i64 0, .string ⟨#[]⟩] 24)) (.cells #[.int .i64 0, .int .i64 0, .int .i64 0, .int .i64 0, .int .i64 0, .int .i64 0] 40)
    simpa using this
  have hG10 : Hid (((w.alloc (.cells #[.int .i64 0, .int .i64 0, .int .i64 0, .int .i64 0, .int .i64 0, .int .i64 0, .int .i64 0, .int .i64 0, .int .i64 0, .string ⟨#[]⟩] 24)).alloc (.cells #[.int .i64 0, .int .i64 0, .int .i64 0, .int .i64 0, .int .i64 0, .int .i64 0] 40)).heap[w.heap.size + 1]? = some (.cells #[.int .i64 0, .int .i64 0, .int .i64 0, .int .i64 0, .int .i64 0, .int .i64 0] 40)) := by
    show _ = _
    have := heap_newG (w.alloc (.cells #[.int .i64 0, .int .i64 0, .int .i64 0, .int .i64 0, .int .i64 0, .int .i64 0, .int .i64 0, .int .i64 0, .int .i64 0, .string ⟨#[]⟩] 24)) (.cells #[.int .i64 0, .int .i64 0, .int .i64 0, .int .i64 0, .int .i64 0, .int .i64 0] 40)
    simpa using this
  clear hR
  go_enter Tryz.func23, Tryz.ntmps23
  go_wp2_with fail
  generalize (w.alloc (.cells #[.int .i64 0, .int .i64 0, .int .i64 0, .int .i64 0, .int .i64 0, .int .i64 0, .int .i64 0, .int .i64 0, .int .i64 0, .string ⟨#[]⟩] 24)).alloc (.cells #[.int .i64 0, .int .i64 0, .int .i64 0, .int .i64 0, .int .i64 0, .int .i64 0] 40) = w1 at hL0 hR0 hG00 hG10 ⊢
  refine (source_any a len cap w1 hR0.out hl).mono ?_
  rintro _ w2 ⟨rfl, hS2, hb2⟩
  have l0 := blk_lt hG00.out
  have hG02 := hidS (blk_later hG00.out hb2)
  have l1 := blk_lt hG10.out
  have hG12 := hidS (blk_later hG10.out hb2)
  have hL2 := hidS (hL0.out.trans (hb2.mono hL0.out.size))
  have HS2 := hidS hS2
  clear hb2 hL0 hR0 hG00 hG10 hS2
  generalize w1.heap.size = B at *
  go_wp2_with fail
  refine (srcSome_any B a len cap w2 HS2.out).mono ?_
  rintro _ w3 ⟨p, rfl, hp, hS3, hg3⟩
  have hG03 := hidS ((hg3.block _ (blk_lt hG02.out) (fun e => by injection e with e; omega)).trans hG02.out)
  have hG13 := hidS ((hg3.block _ (blk_lt hG12.out) (fun e => by injection e with e; omega)).trans hG12.out)
  have hL3 := hidS (hL2.out.grown hg3 hL2.out.size (fun k e => by cases e; omega))
  have hBl := hS3.lt
  have HPB := hidS hp
  have HS4 := hidS (hS3.kept (w' := w3.alloc (.cells #[.int .i64 p.src, .int .i64 p.dst, .int .i64 p.proto, .int .i64 p.a, .int .i64 p.b, .int .i64 p.kind, .int .i64 p.flags, .int .i64 p.seq, .int .i64 p.ack, .string p.body] 24)) fun k hk => Below.heap_alloc _ _ _ (by omega))
  have hL4 := hidS (hL3.out.alloc hL3.out.size (.cells #[.int .i64 p.src, .int .i64 p.dst, .int .i64 p.proto, .int .i64 p.a, .int .i64 p.b, .int .i64 p.kind, .int .i64 p.flags, .int .i64 p.seq, .int .i64 p.ack, .string p.body] 24))
  have hG04 := hidS (blk_alloc hG03.out (.cells #[.int .i64 p.src, .int .i64 p.dst, .int .i64 p.proto, .int .i64 p.a, .int .i64 p.b, .int .i64 p.kind, .int .i64 p.flags, .int .i64 p.seq, .int .i64 p.ack, .string p.body] 24))
  have hG14 := hidS (blk_alloc hG13.out (.cells #[.int .i64 p.src, .int .i64 p.dst, .int .i64 p.proto, .int .i64 p.a, .int .i64 p.b, .int .i64 p.kind, .int .i64 p.flags, .int .i64 p.seq, .int .i64 p.ack, .string p.body] 24))
  have hP4 := hidS (heap_newG w3 (.cells #[.int .i64 p.src, .int .i64 p.dst, .int .i64 p.proto, .int .i64 p.a, .int .i64 p.b, .int .i64 p.kind, .int .i64 p.flags, .int .i64 p.seq, .int .i64 p.ack, .string p.body] 24))
  have lg : w.heap.size + 1 < w3.heap.size := blk_lt hG13.out
  clear hg3 hL2 hG02 hG12 HS2 hS3 hL3 hG03 hG13 hp
  go_upto_region 3 with fail
  generalize w3.alloc (.cells #[.int .i64 p.src, .int .i64 p.dst, .int .i64 p.proto, .int .i64 p.a, .int .i64 p.b, .int .i64 p.kind, .int .i64 p.flags, .int .i64 p.seq, .int .i64 p.ack, .string p.body] 24) = w4 at HS4 hL4 hG04 hG14 hP4 ⊢
  generalize w3.heap.size = g at *
  go_wp2_with fail
  refine (srcTuple_any B a len cap w4 HS4.out).mono ?_
  rintro _ w5 ⟨t, rfl, hS5, hg5⟩
  have hG05 := hidS ((hg5.block _ (blk_lt hG04.out) (fun e => by injection e with e; omega)).trans hG04.out)
  have hG15 := hidS ((hg5.block _ (blk_lt hG14.out) (fun e => by injection e with e; omega)).trans hG14.out)
  have hL5 := hidS (hL4.out.grown hg5 hL4.out.size (fun k e => by cases e; omega))
  have hP5 := hidS ((hg5.block _ (blk_lt hP4.out) (fun e => by injection e with e; omega)).trans hP4.out)
  have HS6 := hidS (hS5.kept (w' := w5.alloc (.cells #[.int .i64 t.proto, .int .i64 t.src, .int .i64 t.sport, .int .i64 t.dst, .int .i64 t.dport, .int .i64 t.kind] 40)) fun k hk => Below.heap_alloc _ _ _ (by have := hS5.lt; omega))
  have hL6 := hidS (hL5.out.alloc hL5.out.size (.cells #[.int .i64 t.proto, .int .i64 t.src, .int .i64 t.sport, .int .i64 t.dst, .int .i64 t.dport, .int .i64 t.kind] 40))
  have hG06 := hidS (blk_alloc hG05.out (.cells #[.int .i64 t.proto, .int .i64 t.src, .int .i64 t.sport, .int .i64 t.dst, .int .i64 t.dport, .int .i64 t.kind] 40))
  have hG16 := hidS (blk_alloc hG15.out (.cells #[.int .i64 t.proto, .int .i64 t.src, .int .i64 t.sport, .int .i64 t.dst, .int .i64 t.dport, .int .i64 t.kind] 40))
  have hP6 := hidS (blk_alloc hP5.out (.cells #[.int .i64 t.proto, .int .i64 t.src, .int .i64 t.sport, .int .i64 t.dst, .int .i64 t.dport, .int .i64 t.kind] 40))
  have hT6 := hidS (heap_newG w5 (.cells #[.int .i64 t.proto, .int .i64 t.src, .int .i64 t.sport, .int .i64 t.dst, .int .i64 t.dport, .int .i64 t.kind] 40))
  have lh : g < w5.heap.size := blk_lt hP5.out
  have lB : B < w5.heap.size := hS5.lt
  clear hg5 hL4 hG04 hG14 HS4 hS5 hL5 hG05 hG15 hP4 hP5
  go_upto_region 4 with fail
  generalize w5.alloc (.cells #[.int .i64 t.proto, .int .i64 t.src, .int .i64 t.sport, .int .i64 t.dst, .int .i64 t.dport, .int .i64 t.kind] 40) = w6 at HS6 hL6 hG06 hG16 hP6 hT6 ⊢
  generalize w5.heap.size = h at *
  go_wp2_with fail
  refine (srcOne_any B a len cap 2 w6 HS6.out (by omega)).mono ?_
  rintro _ w7 ⟨c, rfl, hS7, hO7⟩
  have hg7 := hO7.grown
  have hG07 := hidS ((hg7.block _ (blk_lt hG06.out) (fun e => by injection e with e; omega)).trans hG06.out)
  have hG17 := hidS ((hg7.block _ (blk_lt hG16.out) (fun e => by injection e with e; omega)).trans hG16.out)
  have hL7 := hidS (hL6.out.grown hg7 hL6.out.size (fun k e => by cases e; omega))
  have hP7 := hidS ((hg7.block _ (blk_lt hP6.out) (fun e => by injection e with e; omega)).trans hP6.out)
  have hT7 := hidS ((hg7.block _ (blk_lt hT6.out) (fun e => by injection e with e; omega)).trans hT6.out)
  have HS7 := hidS hS7
  clear hO7 hg7 HS6 hL6 hG06 hG16 hP6 hT6 hS7
  cases c
  · have hK : Hid (DrOk B a len w [(g, .cells #[.int .i64 p.src, .int .i64 p.dst, .int .i64 p.proto, .int .i64 p.a, .int .i64 p.b, .int .i64 p.kind, .int .i64 p.flags, .int .i64 p.seq, .int .i64 p.ack, .string p.body] 24), (h, .cells #[.int .i64 t.proto, .int .i64 t.src, .int .i64 t.sport, .int .i64 t.dst, .int .i64 t.dport, .int .i64 t.kind] 40)] [(w.heap.size, 24, (fun cs : Array Value => ∃ q : Pk, cs = #[.int .i64 q.src, .int .i64 q.dst, .int .i64 q.proto, .int .i64 q.a, .int .i64 q.b, .int .i64 q.kind, .int .i64 q.flags, .int .i64 q.seq, .int .i64 q.ack, .string q.body] ∧ q.body.size ≤ 101)), (w.heap.size + 1, 40, (fun cs : Array Value => ∃ q : Tp, cs = #[.int .i64 q.proto, .int .i64 q.src, .int .i64 q.sport, .int .i64 q.dst, .int .i64 q.dport, .int .i64 q.kind]))]) := by
      refine ⟨hRR.out, by omega, ?_, ?_, ?_⟩ <;> intro x hx <;> simp at hx
      all_goals (rcases hx with rfl | rfl)
      all_goals (first | (constructor <;> (simp <;> omega)) | (simp; omega) | (intro y hy; simp at hy; rcases hy with rfl | rfl <;> simp <;> omega))
    have hC0 : Hid (DrC B a len cap w [(g, .cells #[.int .i64 p.src, .int .i64 p.dst, .int .i64 p.proto, .int .i64 p.a, .int .i64 p.b, .int .i64 p.kind, .int .i64 p.flags, .int .i64 p.seq, .int .i64 p.ack, .string p.body] 24), (h, .cells #[.int .i64 t.proto, .int .i64 t.src, .int .i64 t.sport, .int .i64 t.dst, .int .i64 t.dport, .int .i64 t.kind] 40)] [(w.heap.size, 24, (fun cs : Array Value => ∃ q : Pk, cs = #[.int .i64 q.src, .int .i64 q.dst, .int .i64 q.proto, .int .i64 q.a, .int .i64 q.b, .int .i64 q.kind, .int .i64 q.flags, .int .i64 q.seq, .int .i64 q.ack, .string q.body] ∧ q.body.size ≤ 101)), (w.heap.size + 1, 40, (fun cs : Array Value => ∃ q : Tp, cs = #[.int .i64 q.proto, .int .i64 q.src, .int .i64 q.sport, .int .i64 q.dst, .int .i64 q.dport, .int .i64 q.kind]))] w7.drew) := by
      refine ⟨HS7.out, hL7.out.drew, fun x hx => ?_, fun x hx => ?_⟩
      · simp at hx; rcases hx with rfl | rfl; exact hP7.out; exact hT7.out
      · simp at hx; rcases hx with rfl | rfl; exact ⟨_, ⟨zeroPk, rfl, by decide⟩, hG07.out⟩; exact ⟨_, ⟨zeroTp, rfl⟩, hG17.out⟩
    clear HS7 hL7 hG07 hG17 hP7 hT7
    go_wp2_with fail
    refine grow_res (DrC B a len cap w [(g, .cells #[.int .i64 p.src, .int .i64 p.dst, .int .i64 p.proto, .int .i64 p.a, .int .i64 p.b, .int .i64 p.kind, .int .i64 p.flags, .int .i64 p.seq, .int .i64 p.ack, .string p.body] 24), (h, .cells #[.int .i64 t.proto, .int .i64 t.src, .int .i64 t.sport, .int .i64 t.dst, .int .i64 t.dport, .int .i64 t.kind] 40)] [(w.heap.size, 24, (fun cs : Array Value => ∃ q : Pk, cs = #[.int .i64 q.src, .int .i64 q.dst, .int .i64 q.proto, .int .i64 q.a, .int .i64 q.b, .int .i64 q.kind, .int .i64 q.flags, .int .i64 q.seq, .int .i64 q.ack, .string q.body] ∧ q.body.size ≤ 101)), (w.heap.size + 1, 40, (fun cs : Array Value => ∃ q : Tp, cs = #[.int .i64 q.proto, .int .i64 q.src, .int .i64 q.sport, .int .i64 q.dst, .int .i64 q.dport, .int .i64 q.kind]))]) (DrR B [(w.heap.size, 24, (fun cs : Array Value => ∃ q : Pk, cs = #[.int .i64 q.src, .int .i64 q.dst, .int .i64 q.proto, .int .i64 q.a, .int .i64 q.b, .int .i64 q.kind, .int .i64 q.flags, .int .i64 q.seq, .int .i64 q.ack, .string q.body] ∧ q.body.size ≤ 101)), (w.heap.size + 1, 40, (fun cs : Array Value => ∃ q : Tp, cs = #[.int .i64 q.proto, .int .i64 q.src, .int .i64 q.sport, .int .i64 q.dst, .int .i64 q.dport, .int .i64 q.kind]))]) (kpOf [isP (.agg #[.int .i64 p.src, .int .i64 p.dst, .int .i64 p.proto, .int .i64 p.a, .int .i64 p.b, .int .i64 p.kind, .int .i64 p.flags, .int .i64 p.seq, .int .i64 p.ack, .string p.body]), isP (.agg #[.int .i64 t.proto, .int .i64 t.src, .int .i64 t.sport, .int .i64 t.dst, .int .i64 t.dport, .int .i64 t.kind]), anyP, anyP]) (by kernel_rfl) (by kernel_rfl) (all_lastR _ ⟨pure_last, pure_last, pure_last, pure_last, trivial⟩) hC0.out ?steps ?fin
    case steps =>
      refine ⟨?_, ?_, ?_, ?_, trivial⟩
      · refine ⟨rfl, fun v W ρ hC kc kf ks ki kd => ?_⟩
        have t5 : ρ (.tmp 5) = .pointer (some ⟨g, 0, none⟩) := ki 5 (by decide)
        have hg := hC.fix (g, .cells #[.int .i64 p.src, .int .i64 p.dst, .int .i64 p.proto, .int .i64 p.a, .int .i64 p.b, .int .i64 p.kind, .int .i64 p.flags, .int .i64 p.seq, .int .i64 p.ack, .string p.body] 24) (by simp)
        have c0 := blk_cell hg 0
        have c1 := blk_cell hg 1
        have c2 := blk_cell hg 2
        have c3 := blk_cell hg 3
        have c4 := blk_cell hg 4
        have c5 := blk_cell hg 5
        have c6 := blk_cell hg 6
        have c7 := blk_cell hg 7
        have c8 := blk_cell hg 8
        have c9 := blk_cell hg 9
        simp at c0 c1 c2 c3 c4 c5 c6 c7 c8 c9
        simp [execOp, go_sem, t5, c0, c1, c2, c3, c4, c5, c6, c7, c8, c9]
        simp only [RanS]
        exact ⟨hC, DrR.refl _, rfl⟩
      · refine ⟨rfl, fun v W ρ hC kc kf ks ki kd => ?_⟩
        have t6 : ρ (.tmp 6) = .pointer (some ⟨h, 0, none⟩) := ki 6 (by decide)
        have hg := hC.fix (h, .cells #[.int .i64 t.proto, .int .i64 t.src, .int .i64 t.sport, .int .i64 t.dst, .int .i64 t.dport, .int .i64 t.kind] 40) (by simp)
        have c0 := blk_cell hg 0
        have c1 := blk_cell hg 1
        have c2 := blk_cell hg 2
        have c3 := blk_cell hg 3
        have c4 := blk_cell hg 4
        have c5 := blk_cell hg 5
        simp at c0 c1 c2 c3 c4 c5
        simp [execOp, go_sem, t6, c0, c1, c2, c3, c4, c5]
        simp only [RanS]
        exact ⟨hC, DrR.refl _, rfl⟩
      · refine ⟨rfl, fun v W ρ hC kc kf ks ki kd => ?_⟩
        have d0 : v 0 = .agg #[.int .i64 p.src, .int .i64 p.dst, .int .i64 p.proto, .int .i64 p.a, .int .i64 p.b, .int .i64 p.kind, .int .i64 p.flags, .int .i64 p.seq, .int .i64 p.ack, .string p.body] := by first | exact kd _ (Array.mem_of_getElem? (i := 0) rfl) rfl | exact kd _ (Array.mem_of_getElem? (i := 1) rfl) rfl | exact kd _ (Array.mem_of_getElem? (i := 2) rfl) rfl | exact kd _ (Array.mem_of_getElem? (i := 3) rfl) rfl
        have t20 : ρ (.tmp 20) = .agg #[.int .i64 p.src, .int .i64 p.dst, .int .i64 p.proto, .int .i64 p.a, .int .i64 p.b, .int .i64 p.kind, .int .i64 p.flags, .int .i64 p.seq, .int .i64 p.ack, .string p.body] := (ks 0 20 (by decide) rfl).trans d0
        have t2 : ρ (.tmp 2) = .pointer (some ⟨w.heap.size, 0, none⟩) := ki 2 (by decide)
        have hz : ∀ cs, (fun cs : Array Value => ∃ q : Pk, cs = #[.int .i64 q.src, .int .i64 q.dst, .int .i64 q.proto, .int .i64 q.a, .int .i64 q.b, .int .i64 q.kind, .int .i64 q.flags, .int .i64 q.seq, .int .i64 q.ack, .string q.body] ∧ q.body.size ≤ 101) cs → cs.size = 10 := fun cs h => by obtain ⟨q, h⟩ := h; first | (subst h; rfl) | (rw [h.1]; rfl)
        have hth := hC.there (w.heap.size) 24 (fun cs : Array Value => ∃ q : Pk, cs = #[.int .i64 q.src, .int .i64 q.dst, .int .i64 q.proto, .int .i64 q.a, .int .i64 q.b, .int .i64 q.kind, .int .i64 q.flags, .int .i64 q.seq, .int .i64 q.ack, .string q.body] ∧ q.body.size ≤ 101) 10 (by simp) hz
        have hrun := run_storeAt_mid (P := Tryz.prog) W (w.heap.size) 0 24 #[.int .i64 p.src, .int .i64 p.dst, .int .i64 p.proto, .int .i64 p.a, .int .i64 p.b, .int .i64 p.kind, .int .i64 p.flags, .int .i64 p.seq, .int .i64 p.ack, .string p.body] hth (by kernel_rfl) (by simp [Value.oneCell'])
        obtain ⟨q1, q2⟩ := hC.store hK.out (w.heap.size) 24 (fun cs : Array Value => ∃ q : Pk, cs = #[.int .i64 q.src, .int .i64 q.dst, .int .i64 q.proto, .int .i64 q.a, .int .i64 q.b, .int .i64 q.kind, .int .i64 q.flags, .int .i64 q.seq, .int .i64 q.ack, .string q.body] ∧ q.body.size ≤ 101) #[.int .i64 p.src, .int .i64 p.dst, .int .i64 p.proto, .int .i64 p.a, .int .i64 p.b, .int .i64 p.kind, .int .i64 p.flags, .int .i64 p.seq, .int .i64 p.ack, .string p.body] (by simp) (fun y hy e => by simp at hy; rcases hy with rfl | rfl <;> simp at e ⊢) ⟨p, rfl, HPB.out⟩ hz
        simp only [execOp, t2, t20, Sem.run_bind, hrun, Result.andThen_ok, Sem.run_pure]
        simp only [RanS]
        exact ⟨q1, q2, trivial⟩
      · refine ⟨rfl, fun v W ρ hC kc kf ks ki kd => ?_⟩
        have d1 : v 1 = .agg #[.int .i64 t.proto, .int .i64 t.src, .int .i64 t.sport, .int .i64 t.dst, .int .i64 t.dport, .int .i64 t.kind] := by first | exact kd _ (Array.mem_of_getElem? (i := 0) rfl) rfl | exact kd _ (Array.mem_of_getElem? (i := 1) rfl) rfl | exact kd _ (Array.mem_of_getElem? (i := 2) rfl) rfl | exact kd _ (Array.mem_of_getElem? (i := 3) rfl) rfl
        have t21 : ρ (.tmp 21) = .agg #[.int .i64 t.proto, .int .i64 t.src, .int .i64 t.sport, .int .i64 t.dst, .int .i64 t.dport, .int .i64 t.kind] := (ks 1 21 (by decide) rfl).trans d1
        have t3 : ρ (.tmp 3) = .pointer (some ⟨w.heap.size + 1, 0, none⟩) := ki 3 (by decide)
        have hz : ∀ cs, (fun cs : Array Value => ∃ q : Tp, cs = #[.int .i64 q.proto, .int .i64 q.src, .int .i64 q.sport, .int .i64 q.dst, .int .i64 q.dport, .int .i64 q.kind]) cs → cs.size = 6 := fun cs h => by obtain ⟨q, h⟩ := h; first | (subst h; rfl) | (rw [h.1]; rfl)
        have hth := hC.there (w.heap.size + 1) 40 (fun cs : Array Value => ∃ q : Tp, cs = #[.int .i64 q.proto, .int .i64 q.src, .int .i64 q.sport, .int .i64 q.dst, .int .i64 q.dport, .int .i64 q.kind]) 6 (by simp) hz
        have hrun := run_storeAt_mid (P := Tryz.prog) W (w.heap.size + 1) 0 40 #[.int .i64 t.proto, .int .i64 t.src, .int .i64 t.sport, .int .i64 t.dst, .int .i64 t.dport, .int .i64 t.kind] hth (by kernel_rfl) (by simp [Value.oneCell'])
        obtain ⟨q1, q2⟩ := hC.store hK.out (w.heap.size + 1) 40 (fun cs : Array Value => ∃ q : Tp, cs = #[.int .i64 q.proto, .int .i64 q.src, .int .i64 q.sport, .int .i64 q.dst, .int .i64 q.dport, .int .i64 q.kind]) #[.int .i64 t.proto, .int .i64 t.src, .int .i64 t.sport, .int .i64 t.dst, .int .i64 t.dport, .int .i64 t.kind] (by simp) (fun y hy e => by simp at hy; rcases hy with rfl | rfl <;> simp at e ⊢) ⟨t, rfl⟩ hz
        simp only [execOp, t3, t21, Sem.run_bind, hrun, Result.andThen_ok, Sem.run_pure]
        simp only [RanS]
        exact ⟨q1, q2, trivial⟩
    case fin =>
      intro v W hC hall
      obtain ⟨x0, ⟨q0, rfl, hq0⟩, hr0⟩ := hC.res (w.heap.size, 24, (fun cs : Array Value => ∃ q : Pk, cs = #[.int .i64 q.src, .int .i64 q.dst, .int .i64 q.proto, .int .i64 q.a, .int .i64 q.b, .int .i64 q.kind, .int .i64 q.flags, .int .i64 q.seq, .int .i64 q.ack, .string q.body] ∧ q.body.size ≤ 101)) (by simp)
      obtain ⟨x1, ⟨q1, rfl⟩, hr1⟩ := hC.res (w.heap.size + 1, 40, (fun cs : Array Value => ∃ q : Tp, cs = #[.int .i64 q.proto, .int .i64 q.src, .int .i64 q.sport, .int .i64 q.dst, .int .i64 q.dport, .int .i64 q.kind])) (by simp)
      have HB := hidS hC.bel
      simp [upto, Act.put]
      have k0 := blk_cell hr0
      have k1 := blk_cell hr1
      clear hC hall hr0 hr1 hC0 hK
      go_wp2_with fail
      exact bodyPost_ret (v := .tuple #[.agg #[.int .i64 q0.src, .int .i64 q0.dst, .int .i64 q0.proto, .int .i64 q0.a, .int .i64 q0.b, .int .i64 q0.kind, .int .i64 q0.flags, .int .i64 q0.seq, .int .i64 q0.ack, .string q0.body], .agg #[.int .i64 q1.proto, .int .i64 q1.src, .int .i64 q1.sport, .int .i64 q1.dst, .int .i64 q1.dport, .int .i64 q1.kind]]) (by simp [results, Tryz.results23, go_sem, *]) rfl ⟨⟨q0, q1, rfl, hq0⟩, HB.out⟩
  · have HQ := hidS (fun W => specTOf_any p W (by have := HPB.out; unfold maxLen; omega))
    generalize ofAns p = u at HQ
    have hl9 := hP7.out
    have x0 := blk_cell hl9 0
    have x1 := blk_cell hl9 1
    have x2 := blk_cell hl9 2
    have x3 := blk_cell hl9 3
    have x4 := blk_cell hl9 4
    have x5 := blk_cell hl9 5
    have x6 := blk_cell hl9 6
    have x7 := blk_cell hl9 7
    have x8 := blk_cell hl9 8
    have x9 := blk_cell hl9 9
    simp at x0 x1 x2 x3 x4 x5 x6 x7 x8 x9
    clear hl9
    go_wp2_with fail
    refine (HQ.out w7).mono ?_
    rintro _ w8 ⟨rfl, hb8⟩
    clear x0 x1 x2 x3 x4 x5 x6 x7 x8 x9 HQ
    have hL8 := hidS (hL7.out.trans (hb8.mono hL7.out.size))
    have hG08 := hidS (blk_later hG07.out hb8)
    have hG18 := hidS (blk_later hG17.out hb8)
    have hP8 := hidS (blk_later hP7.out hb8)
    have hT8 := hidS (blk_later hT7.out hb8)
    have HS8 := hidS (src_below HS7.out hb8)
    have kT := blk_cell hT8.out
    have fT := blk_free hT8.out
    clear hb8 hL7 hG07 hG17 hP7 hT7 HS7
    obtain ⟨hT9', ho9, hb9⟩ := set6 w8 h t u hT8.out
    have hT9 := hidS hT9'
    have hG09 := hidS ((ho9 _ (by omega)).trans hG08.out)
    have hG19 := hidS ((ho9 _ (by omega)).trans hG18.out)
    have hP9 := hidS ((ho9 _ (by omega)).trans hP8.out)
    have hL9 := hidS (hL8.out.trans (hb9 _ (by omega)))
    have HS9 := hidS (HS8.out.kept (w' := ((((((w8.setCell ⟨h, 0, none⟩ (.int .i64 u.proto)).setCell ⟨h, 1, none⟩ (.int .i64 u.src)).setCell ⟨h, 2, none⟩ (.int .i64 u.sport)).setCell ⟨h, 3, none⟩ (.int .i64 u.dst)).setCell ⟨h, 4, none⟩ (.int .i64 u.dport)).setCell ⟨h, 5, none⟩ (.int .i64 u.kind))) fun k hk => ho9 k (by omega))
    clear hT9' ho9 hb9 hL8 hG08 hG18 hP8 hT8 HS8
    go_upto_region 6 with fail
    generalize ((((((w8.setCell ⟨h, 0, none⟩ (.int .i64 u.proto)).setCell ⟨h, 1, none⟩ (.int .i64 u.src)).setCell ⟨h, 2, none⟩ (.int .i64 u.sport)).setCell ⟨h, 3, none⟩ (.int .i64 u.dst)).setCell ⟨h, 4, none⟩ (.int .i64 u.dport)).setCell ⟨h, 5, none⟩ (.int .i64 u.kind)) = w9 at hT9 hG09 hG19 hP9 hL9 HS9 ⊢
    clear kT fT
    go_wp2_with fail
    refine (srcAddr_any B a len cap w9 HS9.out).mono ?_
    rintro _ w10 ⟨z, rfl, _, _, hSx, hgx⟩
    have hL10 := hidS (hL9.out.grown hgx hL9.out.size (fun k e => by cases e; omega))
    have hG010 := hidS ((hgx.block _ (blk_lt hG09.out) (fun e => by injection e with e; omega)).trans hG09.out)
    have hG110 := hidS ((hgx.block _ (blk_lt hG19.out) (fun e => by injection e with e; omega)).trans hG19.out)
    have hP10 := hidS ((hgx.block _ (blk_lt hP9.out) (fun e => by injection e with e; omega)).trans hP9.out)
    have hT10 := hidS ((hgx.block _ (blk_lt hT9.out) (fun e => by injection e with e; omega)).trans hT9.out)
    have kT := blk_cell hT10.out
    have fT := blk_free hT10.out
    have ho : ∀ i, i ≠ h → (w10.setCell ⟨h, 1, none⟩ (.int .i64 z)).heap[i]? = w10.heap[i]? := fun i hi => Below.heap_setCell w10 ⟨h, 1, none⟩ _ i hi
    have hT11 : Hid ((w10.setCell ⟨h, 1, none⟩ (.int .i64 z)).heap[h]? = some (.cells #[.int .i64 u.proto, .int .i64 z, .int .i64 u.sport, .int .i64 u.dst, .int .i64 u.dport, .int .i64 u.kind] 40)) := by
      show _ = _
      have := blk_set hT10.out 1 (.int .i64 z)
      simpa using this
    have hG011 := hidS ((ho _ (by omega)).trans hG010.out)
    have hG111 := hidS ((ho _ (by omega)).trans hG110.out)
    have hP11 := hidS ((ho _ (by omega)).trans hP10.out)
    have hL11 := hidS (hL10.out.setCell (p := ⟨h, 1, none⟩) (by simp; omega) (.int .i64 z))
    have HS11 := hidS (hSx.kept (w' := w10.setCell ⟨h, 1, none⟩ (.int .i64 z)) fun k hk => ho k (by omega))
    clear hgx hSx ho hL9 hG09 hG19 hP9 hT9 HS9 hL10 hG010 hG110 hP10 hT10
    go_upto_region 7 with fail
    generalize w10.setCell ⟨h, 1, none⟩ (.int .i64 z) = w11 at hT11 hG011 hG111 hP11 hL11 HS11 ⊢
    obtain ⟨t2, ht2⟩ : ∃ q : Tp, #[.int .i64 q.proto, .int .i64 q.src, .int .i64 q.sport, .int .i64 q.dst, .int .i64 q.dport, .int .i64 q.kind] = (#[.int .i64 u.proto, .int .i64 z, .int .i64 u.sport, .int .i64 u.dst, .int .i64 u.dport, .int .i64 u.kind] : Array Value) := ⟨⟨u.proto, z, u.sport, u.dst, u.dport, u.kind⟩, rfl⟩
    rw [← ht2] at hT11
    clear ht2
    clear kT fT
    have hK : Hid (DrOk B a len w [(g, .cells #[.int .i64 p.src, .int .i64 p.dst, .int .i64 p.proto, .int .i64 p.a, .int .i64 p.b, .int .i64 p.kind, .int .i64 p.flags, .int .i64 p.seq, .int .i64 p.ack, .string p.body] 24), (h, .cells #[.int .i64 t2.proto, .int .i64 t2.src, .int .i64 t2.sport, .int .i64 t2.dst, .int .i64 t2.dport, .int .i64 t2.kind] 40)] [(w.heap.size, 24, (fun cs : Array Value => ∃ q : Pk, cs = #[.int .i64 q.src, .int .i64 q.dst, .int .i64 q.proto, .int .i64 q.a, .int .i64 q.b, .int .i64 q.kind, .int .i64 q.flags, .int .i64 q.seq, .int .i64 q.ack, .string q.body] ∧ q.body.size ≤ 101)), (w.heap.size + 1, 40, (fun cs : Array Value => ∃ q : Tp, cs = #[.int .i64 q.proto, .int .i64 q.src, .int .i64 q.sport, .int .i64 q.dst, .int .i64 q.dport, .int .i64 q.kind]))]) := by
      refine ⟨hRR.out, by omega, ?_, ?_, ?_⟩ <;> intro x hx <;> simp at hx
      all_goals (rcases hx with rfl | rfl)
      all_goals (first | (constructor <;> (simp <;> omega)) | (simp; omega) | (intro y hy; simp at hy; rcases hy with rfl | rfl <;> simp <;> omega))
    have hC0 : Hid (DrC B a len cap w [(g, .cells #[.int .i64 p.src, .int .i64 p.dst, .int .i64 p.proto, .int .i64 p.a, .int .i64 p.b, .int .i64 p.kind, .int .i64 p.flags, .int .i64 p.seq, .int .i64 p.ack, .string p.body] 24), (h, .cells #[.int .i64 t2.proto, .int .i64 t2.src, .int .i64 t2.sport, .int .i64 t2.dst, .int .i64 t2.dport, .int .i64 t2.kind] 40)] [(w.heap.size, 24, (fun cs : Array Value => ∃ q : Pk, cs = #[.int .i64 q.src, .int .i64 q.dst, .int .i64 q.proto, .int .i64 q.a, .int .i64 q.b, .int .i64 q.kind, .int .i64 q.flags, .int .i64 q.seq, .int .i64 q.ack, .string q.body] ∧ q.body.size ≤ 101)), (w.heap.size + 1, 40, (fun cs : Array Value => ∃ q : Tp, cs = #[.int .i64 q.proto, .int .i64 q.src, .int .i64 q.sport, .int .i64 q.dst, .int .i64 q.dport, .int .i64 q.kind]))] w11.drew) := by
      refine ⟨HS11.out, hL11.out.drew, fun x hx => ?_, fun x hx => ?_⟩
      · simp at hx; rcases hx with rfl | rfl; exact hP11.out; exact hT11.out
      · simp at hx; rcases hx with rfl | rfl; exact ⟨_, ⟨zeroPk, rfl, by decide⟩, hG011.out⟩; exact ⟨_, ⟨zeroTp, rfl⟩, hG111.out⟩
    clear HS11 hL11 hG011 hG111 hP11 hT11
    go_wp2_with fail
    refine grow_res (DrC B a len cap w [(g, .cells #[.int .i64 p.src, .int .i64 p.dst, .int .i64 p.proto, .int .i64 p.a, .int .i64 p.b, .int .i64 p.kind, .int .i64 p.flags, .int .i64 p.seq, .int .i64 p.ack, .string p.body] 24), (h, .cells #[.int .i64 t2.proto, .int .i64 t2.src, .int .i64 t2.sport, .int .i64 t2.dst, .int .i64 t2.dport, .int .i64 t2.kind] 40)] [(w.heap.size, 24, (fun cs : Array Value => ∃ q : Pk, cs = #[.int .i64 q.src, .int .i64 q.dst, .int .i64 q.proto, .int .i64 q.a, .int .i64 q.b, .int .i64 q.kind, .int .i64 q.flags, .int .i64 q.seq, .int .i64 q.ack, .string q.body] ∧ q.body.size ≤ 101)), (w.heap.size + 1, 40, (fun cs : Array Value => ∃ q : Tp, cs = #[.int .i64 q.proto, .int .i64 q.src, .int .i64 q.sport, .int .i64 q.dst, .int .i64 q.dport, .int .i64 q.kind]))]) (DrR B [(w.heap.size, 24, (fun cs : Array Value => ∃ q : Pk, cs = #[.int .i64 q.src, .int .i64 q.dst, .int .i64 q.proto, .int .i64 q.a, .int .i64 q.b, .int .i64 q.kind, .int .i64 q.flags, .int .i64 q.seq, .int .i64 q.ack, .string q.body] ∧ q.body.size ≤ 101)), (w.heap.size + 1, 40, (fun cs : Array Value => ∃ q : Tp, cs = #[.int .i64 q.proto, .int .i64 q.src, .int .i64 q.sport, .int .i64 q.dst, .int .i64 q.dport, .int .i64 q.kind]))]) (kpOf [isP (.agg #[.int .i64 p.src, .int .i64 p.dst, .int .i64 p.proto, .int .i64 p.a, .int .i64 p.b, .int .i64 p.kind, .int .i64 p.flags, .int .i64 p.seq, .int .i64 p.ack, .string p.body]), isP (.agg #[.int .i64 t2.proto, .int .i64 t2.src, .int .i64 t2.sport, .int .i64 t2.dst, .int .i64 t2.dport, .int .i64 t2.kind]), anyP, anyP]) (by kernel_rfl) (by kernel_rfl) (all_lastR _ ⟨pure_last, pure_last, pure_last, pure_last, trivial⟩) hC0.out ?steps ?fin
    case steps =>
      refine ⟨?_, ?_, ?_, ?_, trivial⟩
      · refine ⟨rfl, fun v W ρ hC kc kf ks ki kd => ?_⟩
        have t5 : ρ (.tmp 5) = .pointer (some ⟨g, 0, none⟩) := ki 5 (by decide)
        have hg := hC.fix (g, .cells #[.int .i64 p.src, .int .i64 p.dst, .int .i64 p.proto, .int .i64 p.a, .int .i64 p.b, .int .i64 p.kind, .int .i64 p.flags, .int .i64 p.seq, .int .i64 p.ack, .string p.body] 24) (by simp)
        have c0 := blk_cell hg 0
        have c1 := blk_cell hg 1
        have c2 := blk_cell hg 2
        have c3 := blk_cell hg 3
        have c4 := blk_cell hg 4
        have c5 := blk_cell hg 5
        have c6 := blk_cell hg 6
        have c7 := blk_cell hg 7
        have c8 := blk_cell hg 8
        have c9 := blk_cell hg 9
        simp at c0 c1 c2 c3 c4 c5 c6 c7 c8 c9
        simp [execOp, go_sem, t5, c0, c1, c2, c3, c4, c5, c6, c7, c8, c9]
        simp only [RanS]
        exact ⟨hC, DrR.refl _, rfl⟩
      · refine ⟨rfl, fun v W ρ hC kc kf ks ki kd => ?_⟩
        have t6 : ρ (.tmp 6) = .pointer (some ⟨h, 0, none⟩) := ki 6 (by decide)
        have hg := hC.fix (h, .cells #[.int .i64 t2.proto, .int .i64 t2.src, .int .i64 t2.sport, .int .i64 t2.dst, .int .i64 t2.dport, .int .i64 t2.kind] 40) (by simp)
        have c0 := blk_cell hg 0
        have c1 := blk_cell hg 1
        have c2 := blk_cell hg 2
        have c3 := blk_cell hg 3
        have c4 := blk_cell hg 4
        have c5 := blk_cell hg 5
        simp at c0 c1 c2 c3 c4 c5
        simp [execOp, go_sem, t6, c0, c1, c2, c3, c4, c5]
        simp only [RanS]
        exact ⟨hC, DrR.refl _, rfl⟩
      · refine ⟨rfl, fun v W ρ hC kc kf ks ki kd => ?_⟩
        have d0 : v 0 = .agg #[.int .i64 p.src, .int .i64 p.dst, .int .i64 p.proto, .int .i64 p.a, .int .i64 p.b, .int .i64 p.kind, .int .i64 p.flags, .int .i64 p.seq, .int .i64 p.ack, .string p.body] := by first | exact kd _ (Array.mem_of_getElem? (i := 0) rfl) rfl | exact kd _ (Array.mem_of_getElem? (i := 1) rfl) rfl | exact kd _ (Array.mem_of_getElem? (i := 2) rfl) rfl | exact kd _ (Array.mem_of_getElem? (i := 3) rfl) rfl
        have t20 : ρ (.tmp 20) = .agg #[.int .i64 p.src, .int .i64 p.dst, .int .i64 p.proto, .int .i64 p.a, .int .i64 p.b, .int .i64 p.kind, .int .i64 p.flags, .int .i64 p.seq, .int .i64 p.ack, .string p.body] := (ks 0 20 (by decide) rfl).trans d0
        have t2 : ρ (.tmp 2) = .pointer (some ⟨w.heap.size, 0, none⟩) := ki 2 (by decide)
        have hz : ∀ cs, (fun cs : Array Value => ∃ q : Pk, cs = #[.int .i64 q.src, .int .i64 q.dst, .int .i64 q.proto, .int .i64 q.a, .int .i64 q.b, .int .i64 q.kind, .int .i64 q.flags, .int .i64 q.seq, .int .i64 q.ack, .string q.body] ∧ q.body.size ≤ 101) cs → cs.size = 10 := fun cs h => by obtain ⟨q, h⟩ := h; first | (subst h; rfl) | (rw [h.1]; rfl)
        have hth := hC.there (w.heap.size) 24 (fun cs : Array Value => ∃ q : Pk, cs = #[.int .i64 q.src, .int .i64 q.dst, .int .i64 q.proto, .int .i64 q.a, .int .i64 q.b, .int .i64 q.kind, .int .i64 q.flags, .int .i64 q.seq, .int .i64 q.ack, .string q.body] ∧ q.body.size ≤ 101) 10 (by simp) hz
        have hrun := run_storeAt_mid (P := Tryz.prog) W (w.heap.size) 0 24 #[.int .i64 p.src, .int .i64 p.dst, .int .i64 p.proto, .int .i64 p.a, .int .i64 p.b, .int .i64 p.kind, .int .i64 p.flags, .int .i64 p.seq, .int .i64 p.ack, .string p.body] hth (by kernel_rfl) (by simp [Value.oneCell'])
        obtain ⟨q1, q2⟩ := hC.store hK.out (w.heap.size) 24 (fun cs : Array Value => ∃ q : Pk, cs = #[.int .i64 q.src, .int .i64 q.dst, .int .i64 q.proto, .int .i64 q.a, .int .i64 q.b, .int .i64 q.kind, .int .i64 q.flags, .int .i64 q.seq, .int .i64 q.ack, .string q.body] ∧ q.body.size ≤ 101) #[.int .i64 p.src, .int .i64 p.dst, .int .i64 p.proto, .int .i64 p.a, .int .i64 p.b, .int .i64 p.kind, .int .i64 p.flags, .int .i64 p.seq, .int .i64 p.ack, .string p.body] (by simp) (fun y hy e => by simp at hy; rcases hy with rfl | rfl <;> simp at e ⊢) ⟨p, rfl, HPB.out⟩ hz
        simp only [execOp, t2, t20, Sem.run_bind, hrun, Result.andThen_ok, Sem.run_pure]
        simp only [RanS]
        exact ⟨q1, q2, trivial⟩
      · refine ⟨rfl, fun v W ρ hC kc kf ks ki kd => ?_⟩
        have d1 : v 1 = .agg #[.int .i64 t2.proto, .int .i64 t2.src, .int .i64 t2.sport, .int .i64 t2.dst, .int .i64 t2.dport, .int .i64 t2.kind] := by first | exact kd _ (Array.mem_of_getElem? (i := 0) rfl) rfl | exact kd _ (Array.mem_of_getElem? (i := 1) rfl) rfl | exact kd _ (Array.mem_of_getElem? (i := 2) rfl) rfl | exact kd _ (Array.mem_of_getElem? (i := 3) rfl) rfl
        have t21 : ρ (.tmp 21) = .agg #[.int .i64 t2.proto, .int .i64 t2.src, .int .i64 t2.sport, .int .i64 t2.dst, .int .i64 t2.dport, .int .i64 t2.kind] := (ks 1 21 (by decide) rfl).trans d1
        have t3 : ρ (.tmp 3) = .pointer (some ⟨w.heap.size + 1, 0, none⟩) := ki 3 (by decide)
        have hz : ∀ cs, (fun cs : Array Value => ∃ q : Tp, cs = #[.int .i64 q.proto, .int .i64 q.src, .int .i64 q.sport, .int .i64 q.dst, .int .i64 q.dport, .int .i64 q.kind]) cs → cs.size = 6 := fun cs h => by obtain ⟨q, h⟩ := h; first | (subst h; rfl) | (rw [h.1]; rfl)
        have hth := hC.there (w.heap.size + 1) 40 (fun cs : Array Value => ∃ q : Tp, cs = #[.int .i64 q.proto, .int .i64 q.src, .int .i64 q.sport, .int .i64 q.dst, .int .i64 q.dport, .int .i64 q.kind]) 6 (by simp) hz
        have hrun := run_storeAt_mid (P := Tryz.prog) W (w.heap.size + 1) 0 40 #[.int .i64 t2.proto, .int .i64 t2.src, .int .i64 t2.sport, .int .i64 t2.dst, .int .i64 t2.dport, .int .i64 t2.kind] hth (by kernel_rfl) (by simp [Value.oneCell'])
        obtain ⟨q1, q2⟩ := hC.store hK.out (w.heap.size + 1) 40 (fun cs : Array Value => ∃ q : Tp, cs = #[.int .i64 q.proto, .int .i64 q.src, .int .i64 q.sport, .int .i64 q.dst, .int .i64 q.dport, .int .i64 q.kind]) #[.int .i64 t2.proto, .int .i64 t2.src, .int .i64 t2.sport, .int .i64 t2.dst, .int .i64 t2.dport, .int .i64 t2.kind] (by simp) (fun y hy e => by simp at hy; rcases hy with rfl | rfl <;> simp at e ⊢) ⟨t2, rfl⟩ hz
        simp only [execOp, t3, t21, Sem.run_bind, hrun, Result.andThen_ok, Sem.run_pure]
        simp only [RanS]
        exact ⟨q1, q2, trivial⟩
    case fin =>
      intro v W hC hall
      obtain ⟨x0, ⟨q0, rfl, hq0⟩, hr0⟩ := hC.res (w.heap.size, 24, (fun cs : Array Value => ∃ q : Pk, cs = #[.int .i64 q.src, .int .i64 q.dst, .int .i64 q.proto, .int .i64 q.a, .int .i64 q.b, .int .i64 q.kind, .int .i64 q.flags, .int .i64 q.seq, .int .i64 q.ack, .string q.body] ∧ q.body.size ≤ 101)) (by simp)
      obtain ⟨x1, ⟨q1, rfl⟩, hr1⟩ := hC.res (w.heap.size + 1, 40, (fun cs : Array Value => ∃ q : Tp, cs = #[.int .i64 q.proto, .int .i64 q.src, .int .i64 q.sport, .int .i64 q.dst, .int .i64 q.dport, .int .i64 q.kind])) (by simp)
      have HB := hidS hC.bel
      simp [upto, Act.put]
      have k0 := blk_cell hr0
      have k1 := blk_cell hr1
      clear hC hall hr0 hr1 hC0 hK
      go_wp2_with fail
      exact bodyPost_ret (v := .tuple #[.agg #[.int .i64 q0.src, .int .i64 q0.dst, .int .i64 q0.proto, .int .i64 q0.a, .int .i64 q0.b, .int .i64 q0.kind, .int .i64 q0.flags, .int .i64 q0.seq, .int .i64 q0.ack, .string q0.body], .agg #[.int .i64 q1.proto, .int .i64 q1.src, .int .i64 q1.sport, .int .i64 q1.dst, .int .i64 q1.dport, .int .i64 q1.kind]]) (by simp [results, Tryz.results23, go_sem, *]) rfl ⟨⟨q0, q1, rfl, hq0⟩, HB.out⟩
end Go.Proofs.YtedknnkdnccfmaaGreatDoor
