/- Proved here: laws.FnError answers true, whatever is drawn; all old memory stays (condition: the bytes that are drawn from can be read, at most 2^20 each; the sentinels lie where they are laid). -/
import Derived.Test.YtokjhfgbnpdfnaaDoorAll17
import Derived.Test.YtokjhfgbnpdfnaaDoorAll18
import Derived.Test.YtokjhfgbnpdfnaaDoorAll35
import Derived.Test.YtokjhfgbnpdfnaaDoorAll36
import Derived.Test.YtokjhfgbnpdfnaaDoorAll39
import Derived.Test.YtokjhfgbnpdfnaaDoorInnerI2
import Derived.Test.YtokjhfgbnpdfnaaDoorTupOfI
namespace Go.Proofs.YtokjhfgbnpdfnaaDoor
open Go.ChangeShapes Go.WideShapes Go.ChangeAt Go.RowKit
set_option linter.unusedVariables false
set_option linter.unusedSimpArgs false
set_option maxRecDepth 100000

theorem small_max {n : Nat} (h : n ≤ 102) : n ≤ maxLen := by unfold maxLen; omega
set_option maxHeartbeats 4000000 in
theorem fnError_in (a0 : Option Addr) (len0 cap0 : Nat) (a1 : Option Addr) (len1 cap1 : Nat) (w : World) (h0 : RowAt w.heap.size a0 len0 w) (h1 : RowAt w.heap.size a1 len1 w) (hl0 : len0 ≤ 1048576) (hl1 : len1 ≤ 1048576) (hX : ∃ aF aS aY aM, Sent aF aS aY aM w) :
    Calls Tryd.prog 4 #[.slice a0 len0 cap0, .slice a1 len1 cap1] w fun e w' => e = .returned (.bool true) ∧ Below w.heap.size w w' := by
  obtain ⟨aF, aS, aY, aM, hS⟩ := hX
  have g0 : ¬ ((1048576 : Int) < (len0 : Int)) := by omega
  have g1 : ¬ ((1048576 : Int) < (len1 : Int)) := by omega
  have HS := hidS hS
  have H0 := hidS h0
  have H1 := hidS h1
  clear hS h0 h1
  go_enter Tryd.func4, Tryd.ntmps4
  go_wp2_with fail
  refine (drawErrorOf_any a0 len0 cap0 _ H0.out hl0).mono ?_
  rintro _ w1 ⟨p, f, rfl, hp, hb1⟩
  have HPs := hidS hp
  have hL2 := hidS (hb1.alloc hb1.size (.cells #[.int .i64 p.src, .int .i64 p.dst, .int .i64 p.proto, .int .i64 p.a, .int .i64 p.b, .int .i64 p.kind, .int .i64 p.flags, .int .i64 p.seq, .int .i64 p.ack, .string p.body] 35))
  have hP2 := hidS (heap_newG w1 (.cells #[.int .i64 p.src, .int .i64 p.dst, .int .i64 p.proto, .int .i64 p.a, .int .i64 p.b, .int .i64 p.kind, .int .i64 p.flags, .int .i64 p.seq, .int .i64 p.ack, .string p.body] 35))
  clear hb1 hp H0
  go_upto_region 4 with fail
  generalize w1.alloc (.cells #[.int .i64 p.src, .int .i64 p.dst, .int .i64 p.proto, .int .i64 p.a, .int .i64 p.b, .int .i64 p.kind, .int .i64 p.flags, .int .i64 p.seq, .int .i64 p.ack, .string p.body] 35) = w2 at hL2 hP2 ⊢
  generalize w1.heap.size = gp at *
  have hl9 := hP2.out
  have x0 := blk_cell hl9 0
  have x1 := blk_cell hl9 1
  have x2 := blk_cell hl9 2
  have x3 := blk_cell hl9 3
  have x4 := blk_cell hl9 4
  have x5 := blk_cell hl9 5
  have x6 := blk_cell hl9 6
  have x7 := blk_cell hl9 7
  have x8 := blk_cell hl9 8
  have x9 := blk_cell hl9 9
  simp at x0 x1 x2 x3 x4 x5 x6 x7 x8 x9
  clear hl9
  go_wp2_with fail
  refine (implError_any p f w2 (small_max (by have := HPs.out; omega)) (HS.out.later hL2.out)).mono ?_
  rintro _ w3 ⟨rfl, hb3⟩
  clear x0 x1 x2 x3 x4 x5 x6 x7 x8 x9
  have HSP := hidS (fun W => specError_any p f W (small_max (by have := HPs.out; omega)))
  have HXs := hidS (errP_body p f)
  have hEf : Hid (errB p f = false → errC p f = 1) := hidS (fun h => by unfold errC; rw [h]; rfl)
  have hEt : Hid (errB p f = true → errC p f = 0 ∧ rightB (errP p f) = true ∧ (errP p f).dst = p.src ∧ (errP p f).src = f ∧ innerC (errP p f) = 0 ∧ innerP (errP p f) = bareP p ∧ ofAns (bareP p) = ofAns p) := hidS (fun h => by
    obtain ⟨hi1, hi2⟩ := err_inner h
    obtain ⟨hr, hk, _⟩ := err_parts h
    exact ⟨by unfold errC; rw [if_pos h], err_right h, by rw [errP_is h], by rw [errP_is h], hi1, hi2, bare_of hr hk⟩)
  generalize errP p f = X at *
  generalize errC p f = C at *
  have hL3 := hidS (hL2.out.trans (hb3.mono hL2.out.size))
  have hL4 := hidS (hL3.out.alloc hL3.out.size (.cells #[.int .i64 X.src, .int .i64 X.dst, .int .i64 X.proto, .int .i64 X.a, .int .i64 X.b, .int .i64 X.kind, .int .i64 X.flags, .int .i64 X.seq, .int .i64 X.ack, .string X.body, .int .i64 C] 39))
  have hP4 := hidS (blk_alloc (blk_later hP2.out hb3) (.cells #[.int .i64 X.src, .int .i64 X.dst, .int .i64 X.proto, .int .i64 X.a, .int .i64 X.b, .int .i64 X.kind, .int .i64 X.flags, .int .i64 X.seq, .int .i64 X.ack, .string X.body, .int .i64 C] 39))
  have hX4 := hidS (heap_newG w3 (.cells #[.int .i64 X.src, .int .i64 X.dst, .int .i64 X.proto, .int .i64 X.a, .int .i64 X.b, .int .i64 X.kind, .int .i64 X.flags, .int .i64 X.seq, .int .i64 X.ack, .string X.body, .int .i64 C] 39))
  clear hb3 hL2 hL3 hP2
  go_upto_region 5 with fail
  generalize w3.alloc (.cells #[.int .i64 X.src, .int .i64 X.dst, .int .i64 X.proto, .int .i64 X.a, .int .i64 X.b, .int .i64 X.kind, .int .i64 X.flags, .int .i64 X.seq, .int .i64 X.ack, .string X.body, .int .i64 C] 39) = w4 at hL4 hP4 hX4 ⊢
  generalize w3.heap.size = gx at *
  go_wp2_with fail
  refine (drawInnerOf_any a1 len1 cap1 w4 (H1.out.later hL4.out) hl1).mono ?_
  rintro _ w5 ⟨q, rfl, hq, hb5⟩
  have HQs := hidS hq
  have hL5 := hidS (hL4.out.trans (hb5.mono hL4.out.size))
  have hL6 := hidS (hL5.out.alloc hL5.out.size (.cells #[.int .i64 q.src, .int .i64 q.dst, .int .i64 q.proto, .int .i64 q.a, .int .i64 q.b, .int .i64 q.kind, .int .i64 q.flags, .int .i64 q.seq, .int .i64 q.ack, .string q.body] 35))
  have hP6 := hidS (blk_alloc (blk_later hP4.out hb5) (.cells #[.int .i64 q.src, .int .i64 q.dst, .int .i64 q.proto, .int .i64 q.a, .int .i64 q.b, .int .i64 q.kind, .int .i64 q.flags, .int .i64 q.seq, .int .i64 q.ack, .string q.body] 35))
  have hX6 := hidS (blk_alloc (blk_later hX4.out hb5) (.cells #[.int .i64 q.src, .int .i64 q.dst, .int .i64 q.proto, .int .i64 q.a, .int .i64 q.b, .int .i64 q.kind, .int .i64 q.flags, .int .i64 q.seq, .int .i64 q.ack, .string q.body] 35))
  have hQ6 := hidS (heap_newG w5 (.cells #[.int .i64 q.src, .int .i64 q.dst, .int .i64 q.proto, .int .i64 q.a, .int .i64 q.b, .int .i64 q.kind, .int .i64 q.flags, .int .i64 q.seq, .int .i64 q.ack, .string q.body] 35))
  clear hq hb5 hL4 hP4 hX4 hL5 H1
  go_upto_region 6 with fail
  generalize w5.alloc (.cells #[.int .i64 q.src, .int .i64 q.dst, .int .i64 q.proto, .int .i64 q.a, .int .i64 q.b, .int .i64 q.kind, .int .i64 q.flags, .int .i64 q.seq, .int .i64 q.ack, .string q.body] 35) = w6 at hL6 hP6 hX6 hQ6 ⊢
  generalize w5.heap.size = gq at *
  have HQi := hidS (fun W (h : Below w.heap.size w W) => implInner_any q W (small_max HQs.out) (HS.out.later h))
  have HQsp := hidS (fun W => specInner_any q W (small_max HQs.out))
  have HYi := hidS (fun W (h : Below w.heap.size w W) => implInner_any X W (small_max (Nat.le_trans HXs.out (by omega))) (HS.out.later h))
  have HXr := hidS (fun W => specRight_any X W (small_max (Nat.le_trans HXs.out (by omega))))
  have HTp := hidS (fun W => implTOf_any p W (small_max (Nat.le_trans HPs.out (by omega))))
  generalize innerP q = I at *
  generalize innerC q = D at *
  cases hE : errB p f
  · have hC1 := hEf.out hE
    subst hC1
    clear hEf hEt hE
    refine grow_guarded 17 [.is (.agg #[.int .i64 X.src, .int .i64 X.dst, .int .i64 X.proto, .int .i64 X.a, .int .i64 X.b, .int .i64 X.kind, .int .i64 X.flags, .int .i64 X.seq, .int .i64 X.ack, .string X.body, .int .i64 1]), .is (.agg #[.int .i64 p.src, .int .i64 p.dst, .int .i64 p.proto, .int .i64 p.a, .int .i64 p.b, .int .i64 p.kind, .int .i64 p.flags, .int .i64 p.seq, .int .i64 p.ack, .string p.body]), .is (.int .i64 f), .is (.agg #[.int .i64 X.src, .int .i64 X.dst, .int .i64 X.proto, .int .i64 X.a, .int .i64 X.b, .int .i64 X.kind, .int .i64 X.flags, .int .i64 X.seq, .int .i64 X.ack, .string X.body, .int .i64 1]), .is (.bool false), .is (.bool false), .is (.agg #[.int .i64 q.src, .int .i64 q.dst, .int .i64 q.proto, .int .i64 q.a, .int .i64 q.b, .int .i64 q.kind, .int .i64 q.flags, .int .i64 q.seq, .int .i64 q.ack, .string q.body]), .is (.agg #[.int .i64 I.src, .int .i64 I.dst, .int .i64 I.proto, .int .i64 I.a, .int .i64 I.b, .int .i64 I.kind, .int .i64 I.flags, .int .i64 I.seq, .int .i64 I.ack, .string I.body, .int .i64 D]), .is (.agg #[.int .i64 q.src, .int .i64 q.dst, .int .i64 q.proto, .int .i64 q.a, .int .i64 q.b, .int .i64 q.kind, .int .i64 q.flags, .int .i64 q.seq, .int .i64 q.ack, .string q.body]), .is (.agg #[.int .i64 I.src, .int .i64 I.dst, .int .i64 I.proto, .int .i64 I.a, .int .i64 I.b, .int .i64 I.kind, .int .i64 I.flags, .int .i64 I.seq, .int .i64 I.ack, .string I.body, .int .i64 D]), .is (.bool false), .is (.bool false), .is (.bool false), .is (.pointer (some ⟨gx, 10, none⟩)), .is (.int .i64 1), .is (.bool true), .is (.bool true)] rfl (by kernel_rfl) (by kernel_rfl) ?steps6f ?fin6f
    case steps6f =>
      refine ⟨?_, ?_, ?_, ?_, ?_, ?_, ?_, ?_, ?_, ?_, ?_, ?_, ?_, ?_, ?_, ?_, ?_, trivial⟩
      · refine stepW_of_u ⟨rfl, fun v W ρ hC kc kf ks ki kd => ?_⟩
        have t7 : ρ (.tmp 7) = .pointer (some ⟨gx, 0, none⟩) := ki 7 (by decide)
        have hg := blk_later hX6.out hC
        have c0 := blk_cell hg 0
        have c1 := blk_cell hg 1
        have c2 := blk_cell hg 2
        have c3 := blk_cell hg 3
        have c4 := blk_cell hg 4
        have c5 := blk_cell hg 5
        have c6 := blk_cell hg 6
        have c7 := blk_cell hg 7
        have c8 := blk_cell hg 8
        have c9 := blk_cell hg 9
        have c10 := blk_cell hg 10
        simp at c0 c1 c2 c3 c4 c5 c6 c7 c8 c9 c10
        simp [execOp, go_sem, kc, t7, c0, c1, c2, c3, c4, c5, c6, c7, c8, c9, c10]
        exact ⟨hC, Below.refl _ _, rfl⟩
      · refine stepW_of_u ⟨rfl, fun v W ρ hC kc kf ks ki kd => ?_⟩
        have t5 : ρ (.tmp 5) = .pointer (some ⟨gp, 0, none⟩) := ki 5 (by decide)
        have hg := blk_later hP6.out hC
        have c0 := blk_cell hg 0
        have c1 := blk_cell hg 1
        have c2 := blk_cell hg 2
        have c3 := blk_cell hg 3
        have c4 := blk_cell hg 4
        have c5 := blk_cell hg 5
        have c6 := blk_cell hg 6
        have c7 := blk_cell hg 7
        have c8 := blk_cell hg 8
        have c9 := blk_cell hg 9
        simp at c0 c1 c2 c3 c4 c5 c6 c7 c8 c9
        simp [execOp, go_sem, kc, t5, c0, c1, c2, c3, c4, c5, c6, c7, c8, c9]
        exact ⟨hC, Below.refl _ _, rfl⟩
      · refine stepW_of_u ⟨rfl, fun v W ρ hC kc kf ks ki kd => ?_⟩
        have t6 : ρ (.tmp 6) = .int .i64 f := ki 6 (by decide)
        simp [execOp, go_sem, kc, t6]
        exact ⟨hC, Below.refl _ _, rfl⟩
      · refine stepW_of_u ⟨rfl, fun v W ρ hC kc kf ks ki kd => ?_⟩
        have d1 : v 1 = .agg #[.int .i64 p.src, .int .i64 p.dst, .int .i64 p.proto, .int .i64 p.a, .int .i64 p.b, .int .i64 p.kind, .int .i64 p.flags, .int .i64 p.seq, .int .i64 p.ack, .string p.body] := by first | exact kd _ (Array.mem_of_getElem? (i := 0) rfl) rfl | exact kd _ (Array.mem_of_getElem? (i := 1) rfl) rfl | exact kd _ (Array.mem_of_getElem? (i := 2) rfl) rfl | exact kd _ (Array.mem_of_getElem? (i := 3) rfl) rfl
        have t29 : ρ (.tmp 29) = .agg #[.int .i64 p.src, .int .i64 p.dst, .int .i64 p.proto, .int .i64 p.a, .int .i64 p.b, .int .i64 p.kind, .int .i64 p.flags, .int .i64 p.seq, .int .i64 p.ack, .string p.body] := (ks 1 29 (by decide) rfl).trans d1
        have d2 : v 2 = .int .i64 f := by first | exact kd _ (Array.mem_of_getElem? (i := 0) rfl) rfl | exact kd _ (Array.mem_of_getElem? (i := 1) rfl) rfl | exact kd _ (Array.mem_of_getElem? (i := 2) rfl) rfl | exact kd _ (Array.mem_of_getElem? (i := 3) rfl) rfl
        have t30 : ρ (.tmp 30) = .int .i64 f := (ks 2 30 (by decide) rfl).trans d2
        simp [execOp, go_sem, t29, t30, kf]
        exact Calls.mono (HSP.out W) (fun e x h => ⟨_, h.1, hC.trans (h.2.mono hC.size), h.2, rfl⟩)
      · refine stepW_of_u ⟨rfl, fun v W ρ hC kc kf ks ki kd => ?_⟩
        have d0 : v 0 = .agg #[.int .i64 X.src, .int .i64 X.dst, .int .i64 X.proto, .int .i64 X.a, .int .i64 X.b, .int .i64 X.kind, .int .i64 X.flags, .int .i64 X.seq, .int .i64 X.ack, .string X.body, .int .i64 1] := by first | exact kd _ (Array.mem_of_getElem? (i := 0) rfl) rfl | exact kd _ (Array.mem_of_getElem? (i := 1) rfl) rfl | exact kd _ (Array.mem_of_getElem? (i := 2) rfl) rfl | exact kd _ (Array.mem_of_getElem? (i := 3) rfl) rfl
        have t28 : ρ (.tmp 28) = .agg #[.int .i64 X.src, .int .i64 X.dst, .int .i64 X.proto, .int .i64 X.a, .int .i64 X.b, .int .i64 X.kind, .int .i64 X.flags, .int .i64 X.seq, .int .i64 X.ack, .string X.body, .int .i64 1] := (ks 0 28 (by decide) rfl).trans d0
        have d3 : v 3 = .agg #[.int .i64 X.src, .int .i64 X.dst, .int .i64 X.proto, .int .i64 X.a, .int .i64 X.b, .int .i64 X.kind, .int .i64 X.flags, .int .i64 X.seq, .int .i64 X.ack, .string X.body, .int .i64 1] := by first | exact kd _ (Array.mem_of_getElem? (i := 0) rfl) rfl | exact kd _ (Array.mem_of_getElem? (i := 1) rfl) rfl | exact kd _ (Array.mem_of_getElem? (i := 2) rfl) rfl | exact kd _ (Array.mem_of_getElem? (i := 3) rfl) rfl
        have t31 : ρ (.tmp 31) = .agg #[.int .i64 X.src, .int .i64 X.dst, .int .i64 X.proto, .int .i64 X.a, .int .i64 X.b, .int .i64 X.kind, .int .i64 X.flags, .int .i64 X.seq, .int .i64 X.ack, .string X.body, .int .i64 1] := (ks 3 31 (by decide) rfl).trans d3
        simp [execOp, go_sem, kc, t28, t31, neq_pko X (1) W]
        exact ⟨hC, Below.refl _ _, rfl⟩
      · refine stepW_of_u ⟨rfl, fun v W ρ hC kc kf ks ki kd => ?_⟩
        have d4 : v 4 = .bool false := by first | exact kd _ (Array.mem_of_getElem? (i := 0) rfl) rfl | exact kd _ (Array.mem_of_getElem? (i := 1) rfl) rfl | exact kd _ (Array.mem_of_getElem? (i := 2) rfl) rfl | exact kd _ (Array.mem_of_getElem? (i := 3) rfl) rfl
        have t32 : ρ (.tmp 32) = .bool false := (ks 4 32 (by decide) rfl).trans d4
        simp [execOp, go_sem, kc, t32]
        exact ⟨hC, Below.refl _ _, rfl⟩
      · intro v W ρ y hC kc kf ks ki ky ku kd
        have dg : v 5 = .bool false := by first | exact kd _ (Array.mem_of_getElem? (i := 0) rfl) rfl | exact kd _ (Array.mem_of_getElem? (i := 1) rfl) rfl | exact kd _ (Array.mem_of_getElem? (i := 2) rfl) rfl | exact kd _ (Array.mem_of_getElem? (i := 3) rfl) rfl
        have hy := ky 5 33 false (by decide) rfl dg
        rw [if_pos (by simp [Region.wanted, hy])]
        have t8 : ρ (.tmp 8) = .pointer (some ⟨gq, 0, none⟩) := ki 8 (by decide)
        have hg := blk_later hQ6.out hC
        have c0 := blk_cell hg 0
        have c1 := blk_cell hg 1
        have c2 := blk_cell hg 2
        have c3 := blk_cell hg 3
        have c4 := blk_cell hg 4
        have c5 := blk_cell hg 5
        have c6 := blk_cell hg 6
        have c7 := blk_cell hg 7
        have c8 := blk_cell hg 8
        have c9 := blk_cell hg 9
        simp at c0 c1 c2 c3 c4 c5 c6 c7 c8 c9
        simp [execOp, go_sem, kc, t8, c0, c1, c2, c3, c4, c5, c6, c7, c8, c9]
        exact ⟨hC, Below.refl _ _, rfl⟩
      · intro v W ρ y hC kc kf ks ki ky ku kd
        have dg : v 5 = .bool false := by first | exact kd _ (Array.mem_of_getElem? (i := 0) rfl) rfl | exact kd _ (Array.mem_of_getElem? (i := 1) rfl) rfl | exact kd _ (Array.mem_of_getElem? (i := 2) rfl) rfl | exact kd _ (Array.mem_of_getElem? (i := 3) rfl) rfl
        have hy := ky 5 33 false (by decide) rfl dg
        rw [if_pos (by simp [Region.wanted, hy])]
        have d6 : v 6 = .agg #[.int .i64 q.src, .int .i64 q.dst, .int .i64 q.proto, .int .i64 q.a, .int .i64 q.b, .int .i64 q.kind, .int .i64 q.flags, .int .i64 q.seq, .int .i64 q.ack, .string q.body] := by first | exact kd _ (Array.mem_of_getElem? (i := 0) rfl) rfl | exact kd _ (Array.mem_of_getElem? (i := 1) rfl) rfl | exact kd _ (Array.mem_of_getElem? (i := 2) rfl) rfl | exact kd _ (Array.mem_of_getElem? (i := 3) rfl) rfl
        have t34 : ρ (.tmp 34) = .agg #[.int .i64 q.src, .int .i64 q.dst, .int .i64 q.proto, .int .i64 q.a, .int .i64 q.b, .int .i64 q.kind, .int .i64 q.flags, .int .i64 q.seq, .int .i64 q.ack, .string q.body] := (ks 6 34 (by decide) rfl).trans d6
        simp [execOp, go_sem, t34, kf]
        exact Calls.mono (HQi.out W (hL6.out.trans (hC.mono hL6.out.size))) (fun e x h => ⟨_, h.1, hC.trans (h.2.mono hC.size), h.2, rfl⟩)
      · intro v W ρ y hC kc kf ks ki ky ku kd
        have dg : v 5 = .bool false := by first | exact kd _ (Array.mem_of_getElem? (i := 0) rfl) rfl | exact kd _ (Array.mem_of_getElem? (i := 1) rfl) rfl | exact kd _ (Array.mem_of_getElem? (i := 2) rfl) rfl | exact kd _ (Array.mem_of_getElem? (i := 3) rfl) rfl
        have hy := ky 5 33 false (by decide) rfl dg
        rw [if_pos (by simp [Region.wanted, hy])]
        have t8 : ρ (.tmp 8) = .pointer (some ⟨gq, 0, none⟩) := ki 8 (by decide)
        have hg := blk_later hQ6.out hC
        have c0 := blk_cell hg 0
        have c1 := blk_cell hg 1
        have c2 := blk_cell hg 2
        have c3 := blk_cell hg 3
        have c4 := blk_cell hg 4
        have c5 := blk_cell hg 5
        have c6 := blk_cell hg 6
        have c7 := blk_cell hg 7
        have c8 := blk_cell hg 8
        have c9 := blk_cell hg 9
        simp at c0 c1 c2 c3 c4 c5 c6 c7 c8 c9
        simp [execOp, go_sem, kc, t8, c0, c1, c2, c3, c4, c5, c6, c7, c8, c9]
        exact ⟨hC, Below.refl _ _, rfl⟩
      · intro v W ρ y hC kc kf ks ki ky ku kd
        have dg : v 5 = .bool false := by first | exact kd _ (Array.mem_of_getElem? (i := 0) rfl) rfl | exact kd _ (Array.mem_of_getElem? (i := 1) rfl) rfl | exact kd _ (Array.mem_of_getElem? (i := 2) rfl) rfl | exact kd _ (Array.mem_of_getElem? (i := 3) rfl) rfl
        have hy := ky 5 33 false (by decide) rfl dg
        rw [if_pos (by simp [Region.wanted, hy])]
        have d8 : v 8 = .agg #[.int .i64 q.src, .int .i64 q.dst, .int .i64 q.proto, .int .i64 q.a, .int .i64 q.b, .int .i64 q.kind, .int .i64 q.flags, .int .i64 q.seq, .int .i64 q.ack, .string q.body] := by first | exact kd _ (Array.mem_of_getElem? (i := 0) rfl) rfl | exact kd _ (Array.mem_of_getElem? (i := 1) rfl) rfl | exact kd _ (Array.mem_of_getElem? (i := 2) rfl) rfl | exact kd _ (Array.mem_of_getElem? (i := 3) rfl) rfl
        have t36 : ρ (.tmp 36) = .agg #[.int .i64 q.src, .int .i64 q.dst, .int .i64 q.proto, .int .i64 q.a, .int .i64 q.b, .int .i64 q.kind, .int .i64 q.flags, .int .i64 q.seq, .int .i64 q.ack, .string q.body] := (ks 8 36 (by decide) rfl).trans d8
        simp [execOp, go_sem, t36, kf]
        exact Calls.mono (HQsp.out W) (fun e x h => ⟨_, h.1, hC.trans (h.2.mono hC.size), h.2, rfl⟩)
      · intro v W ρ y hC kc kf ks ki ky ku kd
        have dg : v 5 = .bool false := by first | exact kd _ (Array.mem_of_getElem? (i := 0) rfl) rfl | exact kd _ (Array.mem_of_getElem? (i := 1) rfl) rfl | exact kd _ (Array.mem_of_getElem? (i := 2) rfl) rfl | exact kd _ (Array.mem_of_getElem? (i := 3) rfl) rfl
        have hy := ky 5 33 false (by decide) rfl dg
        rw [if_pos (by simp [Region.wanted, hy])]
        have d7 : v 7 = .agg #[.int .i64 I.src, .int .i64 I.dst, .int .i64 I.proto, .int .i64 I.a, .int .i64 I.b, .int .i64 I.kind, .int .i64 I.flags, .int .i64 I.seq, .int .i64 I.ack, .string I.body, .int .i64 D] := by first | exact kd _ (Array.mem_of_getElem? (i := 0) rfl) rfl | exact kd _ (Array.mem_of_getElem? (i := 1) rfl) rfl | exact kd _ (Array.mem_of_getElem? (i := 2) rfl) rfl | exact kd _ (Array.mem_of_getElem? (i := 3) rfl) rfl
        have t35 : ρ (.tmp 35) = .agg #[.int .i64 I.src, .int .i64 I.dst, .int .i64 I.proto, .int .i64 I.a, .int .i64 I.b, .int .i64 I.kind, .int .i64 I.flags, .int .i64 I.seq, .int .i64 I.ack, .string I.body, .int .i64 D] := (ks 7 35 (by decide) rfl).trans d7
        have d9 : v 9 = .agg #[.int .i64 I.src, .int .i64 I.dst, .int .i64 I.proto, .int .i64 I.a, .int .i64 I.b, .int .i64 I.kind, .int .i64 I.flags, .int .i64 I.seq, .int .i64 I.ack, .string I.body, .int .i64 D] := by first | exact kd _ (Array.mem_of_getElem? (i := 0) rfl) rfl | exact kd _ (Array.mem_of_getElem? (i := 1) rfl) rfl | exact kd _ (Array.mem_of_getElem? (i := 2) rfl) rfl | exact kd _ (Array.mem_of_getElem? (i := 3) rfl) rfl
        have t37 : ρ (.tmp 37) = .agg #[.int .i64 I.src, .int .i64 I.dst, .int .i64 I.proto, .int .i64 I.a, .int .i64 I.b, .int .i64 I.kind, .int .i64 I.flags, .int .i64 I.seq, .int .i64 I.ack, .string I.body, .int .i64 D] := (ks 9 37 (by decide) rfl).trans d9
        simp [execOp, go_sem, kc, t35, t37, neq_pko I D W]
        exact ⟨hC, Below.refl _ _, rfl⟩
      · refine stepW_of_u ⟨rfl, fun v W ρ hC kc kf ks ki kd => ?_⟩
        have d5 : v 5 = .bool false := by first | exact kd _ (Array.mem_of_getElem? (i := 0) rfl) rfl | exact kd _ (Array.mem_of_getElem? (i := 1) rfl) rfl | exact kd _ (Array.mem_of_getElem? (i := 2) rfl) rfl | exact kd _ (Array.mem_of_getElem? (i := 3) rfl) rfl
        have t33 : ρ (.tmp 33) = .bool false := (ks 5 33 (by decide) rfl).trans d5
        have d10 : v 10 = .bool false := by first | exact kd _ (Array.mem_of_getElem? (i := 0) rfl) rfl | exact kd _ (Array.mem_of_getElem? (i := 1) rfl) rfl | exact kd _ (Array.mem_of_getElem? (i := 2) rfl) rfl | exact kd _ (Array.mem_of_getElem? (i := 3) rfl) rfl
        have t38 : ρ (.tmp 38) = .bool false := (ks 10 38 (by decide) rfl).trans d10
        simp [execOp, go_sem, kc, t33, t38]
        exact ⟨hC, Below.refl _ _, rfl⟩
      · refine stepW_of_u ⟨rfl, fun v W ρ hC kc kf ks ki kd => ?_⟩
        have d11 : v 11 = .bool false := by first | exact kd _ (Array.mem_of_getElem? (i := 0) rfl) rfl | exact kd _ (Array.mem_of_getElem? (i := 1) rfl) rfl | exact kd _ (Array.mem_of_getElem? (i := 2) rfl) rfl | exact kd _ (Array.mem_of_getElem? (i := 3) rfl) rfl
        have t39 : ρ (.tmp 39) = .bool false := (ks 11 39 (by decide) rfl).trans d11
        simp [execOp, go_sem, kc, t39]
        exact ⟨hC, Below.refl _ _, rfl⟩
      · intro v W ρ y hC kc kf ks ki ky ku kd
        have dg : v 12 = .bool false := by first | exact kd _ (Array.mem_of_getElem? (i := 0) rfl) rfl | exact kd _ (Array.mem_of_getElem? (i := 1) rfl) rfl | exact kd _ (Array.mem_of_getElem? (i := 2) rfl) rfl | exact kd _ (Array.mem_of_getElem? (i := 3) rfl) rfl
        have hy := ky 12 40 false (by decide) rfl dg
        rw [if_pos (by simp [Region.wanted, hy])]
        have t7 : ρ (.tmp 7) = .pointer (some ⟨gx, 0, none⟩) := ki 7 (by decide)
        simp [execOp, go_sem, kc, t7]
        exact ⟨hC, Below.refl _ _, rfl⟩
      · intro v W ρ y hC kc kf ks ki ky ku kd
        have dg : v 12 = .bool false := by first | exact kd _ (Array.mem_of_getElem? (i := 0) rfl) rfl | exact kd _ (Array.mem_of_getElem? (i := 1) rfl) rfl | exact kd _ (Array.mem_of_getElem? (i := 2) rfl) rfl | exact kd _ (Array.mem_of_getElem? (i := 3) rfl) rfl
        have hy := ky 12 40 false (by decide) rfl dg
        rw [if_pos (by simp [Region.wanted, hy])]
        have d13 : v 13 = .pointer (some ⟨gx, 10, none⟩) := by first | exact kd _ (Array.mem_of_getElem? (i := 0) rfl) rfl | exact kd _ (Array.mem_of_getElem? (i := 1) rfl) rfl | exact kd _ (Array.mem_of_getElem? (i := 2) rfl) rfl | exact kd _ (Array.mem_of_getElem? (i := 3) rfl) rfl
        have t41 : ρ (.tmp 41) = .pointer (some ⟨gx, 10, none⟩) := (ks 13 41 (by decide) rfl).trans d13
        have hg := blk_later hX6.out hC
        have c10 := blk_cell hg 10
        simp at c10
        simp [execOp, go_sem, kc, t41, c10]
        exact ⟨hC, Below.refl _ _, rfl⟩
      · intro v W ρ y hC kc kf ks ki ky ku kd
        have dg : v 12 = .bool false := by first | exact kd _ (Array.mem_of_getElem? (i := 0) rfl) rfl | exact kd _ (Array.mem_of_getElem? (i := 1) rfl) rfl | exact kd _ (Array.mem_of_getElem? (i := 2) rfl) rfl | exact kd _ (Array.mem_of_getElem? (i := 3) rfl) rfl
        have hy := ky 12 40 false (by decide) rfl dg
        rw [if_pos (by simp [Region.wanted, hy])]
        have d14 : v 14 = .int .i64 1 := by first | exact kd _ (Array.mem_of_getElem? (i := 0) rfl) rfl | exact kd _ (Array.mem_of_getElem? (i := 1) rfl) rfl | exact kd _ (Array.mem_of_getElem? (i := 2) rfl) rfl | exact kd _ (Array.mem_of_getElem? (i := 3) rfl) rfl
        have t42 : ρ (.tmp 42) = .int .i64 1 := (ks 14 42 (by decide) rfl).trans d14
        simp [execOp, go_sem, kc, t42]
        exact ⟨hC, Below.refl _ _, rfl⟩
      · refine stepW_of_u ⟨rfl, fun v W ρ hC kc kf ks ki kd => ?_⟩
        have d12 : v 12 = .bool false := by first | exact kd _ (Array.mem_of_getElem? (i := 0) rfl) rfl | exact kd _ (Array.mem_of_getElem? (i := 1) rfl) rfl | exact kd _ (Array.mem_of_getElem? (i := 2) rfl) rfl | exact kd _ (Array.mem_of_getElem? (i := 3) rfl) rfl
        have t40 : ρ (.tmp 40) = .bool false := (ks 12 40 (by decide) rfl).trans d12
        have d15 : v 15 = .bool true := by first | exact kd _ (Array.mem_of_getElem? (i := 0) rfl) rfl | exact kd _ (Array.mem_of_getElem? (i := 1) rfl) rfl | exact kd _ (Array.mem_of_getElem? (i := 2) rfl) rfl | exact kd _ (Array.mem_of_getElem? (i := 3) rfl) rfl
        have t43 : ρ (.tmp 43) = .bool true := (ks 15 43 (by decide) rfl).trans d15
        simp [execOp, go_sem, kc, t40, t43]
        exact ⟨hC, Below.refl _ _, rfl⟩
    intro v6f W6f hb6f hall
    have hv6f : v6f 16 = .bool true := hall 16 (by decide)
    simp [upto, Act.put]
    rw [hv6f]
    clear hall hv6f
    have hL7 := hidS (hL6.out.trans (hb6f.mono hL6.out.size))
    have hP7 := hidS (blk_later hP6.out hb6f)
    have hX7 := hidS (blk_later hX6.out hb6f)
    have hQ7 := hidS (blk_later hQ6.out hb6f)
    clear hb6f hL6 hP6 hX6 hQ6
    go_wp2_with fail
    refine grow_guarded 13 [.is (.agg #[.int .i64 X.src, .int .i64 X.dst, .int .i64 X.proto, .int .i64 X.a, .int .i64 X.b, .int .i64 X.kind, .int .i64 X.flags, .int .i64 X.seq, .int .i64 X.ack, .string X.body, .int .i64 1]), .is (.agg #[.int .i64 p.src, .int .i64 p.dst, .int .i64 p.proto, .int .i64 p.a, .int .i64 p.b, .int .i64 p.kind, .int .i64 p.flags, .int .i64 p.seq, .int .i64 p.ack, .string p.body]), .is (.int .i64 f), .is (.agg #[.int .i64 X.src, .int .i64 X.dst, .int .i64 X.proto, .int .i64 X.a, .int .i64 X.b, .int .i64 X.kind, .int .i64 X.flags, .int .i64 X.seq, .int .i64 X.ack, .string X.body, .int .i64 1]), .is (.bool true), .is (.bool true), .is (.agg #[.int .i64 q.src, .int .i64 q.dst, .int .i64 q.proto, .int .i64 q.a, .int .i64 q.b, .int .i64 q.kind, .int .i64 q.flags, .int .i64 q.seq, .int .i64 q.ack, .string q.body]), .is (.agg #[.int .i64 I.src, .int .i64 I.dst, .int .i64 I.proto, .int .i64 I.a, .int .i64 I.b, .int .i64 I.kind, .int .i64 I.flags, .int .i64 I.seq, .int .i64 I.ack, .string I.body, .int .i64 D]), .is (.agg #[.int .i64 q.src, .int .i64 q.dst, .int .i64 q.proto, .int .i64 q.a, .int .i64 q.b, .int .i64 q.kind, .int .i64 q.flags, .int .i64 q.seq, .int .i64 q.ack, .string q.body]), .is (.agg #[.int .i64 I.src, .int .i64 I.dst, .int .i64 I.proto, .int .i64 I.a, .int .i64 I.b, .int .i64 I.kind, .int .i64 I.flags, .int .i64 I.seq, .int .i64 I.ack, .string I.body, .int .i64 D]), .is (.bool true), .is (.bool true), .is (.bool true)] rfl (by kernel_rfl) (by kernel_rfl) ?steps7 ?fin7
    case steps7 =>
      refine ⟨?_, ?_, ?_, ?_, ?_, ?_, ?_, ?_, ?_, ?_, ?_, ?_, ?_, trivial⟩
      · refine stepW_of_u ⟨rfl, fun v W ρ hC kc kf ks ki kd => ?_⟩
        have t7 : ρ (.tmp 7) = .pointer (some ⟨gx, 0, none⟩) := ki 7 (by decide)
        have hg := blk_later hX7.out hC
        have c0 := blk_cell hg 0
        have c1 := blk_cell hg 1
        have c2 := blk_cell hg 2
        have c3 := blk_cell hg 3
        have c4 := blk_cell hg 4
        have c5 := blk_cell hg 5
        have c6 := blk_cell hg 6
        have c7 := blk_cell hg 7
        have c8 := blk_cell hg 8
        have c9 := blk_cell hg 9
        have c10 := blk_cell hg 10
        simp at c0 c1 c2 c3 c4 c5 c6 c7 c8 c9 c10
        simp [execOp, go_sem, kc, t7, c0, c1, c2, c3, c4, c5, c6, c7, c8, c9, c10]
        exact ⟨hC, Below.refl _ _, rfl⟩
      · refine stepW_of_u ⟨rfl, fun v W ρ hC kc kf ks ki kd => ?_⟩
        have t5 : ρ (.tmp 5) = .pointer (some ⟨gp, 0, none⟩) := ki 5 (by decide)
        have hg := blk_later hP7.out hC
        have c0 := blk_cell hg 0
        have c1 := blk_cell hg 1
        have c2 := blk_cell hg 2
        have c3 := blk_cell hg 3
        have c4 := blk_cell hg 4
        have c5 := blk_cell hg 5
        have c6 := blk_cell hg 6
        have c7 := blk_cell hg 7
        have c8 := blk_cell hg 8
        have c9 := blk_cell hg 9
        simp at c0 c1 c2 c3 c4 c5 c6 c7 c8 c9
        simp [execOp, go_sem, kc, t5, c0, c1, c2, c3, c4, c5, c6, c7, c8, c9]
        exact ⟨hC, Below.refl _ _, rfl⟩
      · refine stepW_of_u ⟨rfl, fun v W ρ hC kc kf ks ki kd => ?_⟩
        have t6 : ρ (.tmp 6) = .int .i64 f := ki 6 (by decide)
        simp [execOp, go_sem, kc, t6]
        exact ⟨hC, Below.refl _ _, rfl⟩
      · refine stepW_of_u ⟨rfl, fun v W ρ hC kc kf ks ki kd => ?_⟩
        have d1 : v 1 = .agg #[.int .i64 p.src, .int .i64 p.dst, .int .i64 p.proto, .int .i64 p.a, .int .i64 p.b, .int .i64 p.kind, .int .i64 p.flags, .int .i64 p.seq, .int .i64 p.ack, .string p.body] := by first | exact kd _ (Array.mem_of_getElem? (i := 0) rfl) rfl | exact kd _ (Array.mem_of_getElem? (i := 1) rfl) rfl | exact kd _ (Array.mem_of_getElem? (i := 2) rfl) rfl | exact kd _ (Array.mem_of_getElem? (i := 3) rfl) rfl
        have t46 : ρ (.tmp 46) = .agg #[.int .i64 p.src, .int .i64 p.dst, .int .i64 p.proto, .int .i64 p.a, .int .i64 p.b, .int .i64 p.kind, .int .i64 p.flags, .int .i64 p.seq, .int .i64 p.ack, .string p.body] := (ks 1 46 (by decide) rfl).trans d1
        have d2 : v 2 = .int .i64 f := by first | exact kd _ (Array.mem_of_getElem? (i := 0) rfl) rfl | exact kd _ (Array.mem_of_getElem? (i := 1) rfl) rfl | exact kd _ (Array.mem_of_getElem? (i := 2) rfl) rfl | exact kd _ (Array.mem_of_getElem? (i := 3) rfl) rfl
        have t47 : ρ (.tmp 47) = .int .i64 f := (ks 2 47 (by decide) rfl).trans d2
        simp [execOp, go_sem, t46, t47, kf]
        exact Calls.mono (HSP.out W) (fun e x h => ⟨_, h.1, hC.trans (h.2.mono hC.size), h.2, rfl⟩)
      · refine stepW_of_u ⟨rfl, fun v W ρ hC kc kf ks ki kd => ?_⟩
        have d0 : v 0 = .agg #[.int .i64 X.src, .int .i64 X.dst, .int .i64 X.proto, .int .i64 X.a, .int .i64 X.b, .int .i64 X.kind, .int .i64 X.flags, .int .i64 X.seq, .int .i64 X.ack, .string X.body, .int .i64 1] := by first | exact kd _ (Array.mem_of_getElem? (i := 0) rfl) rfl | exact kd _ (Array.mem_of_getElem? (i := 1) rfl) rfl | exact kd _ (Array.mem_of_getElem? (i := 2) rfl) rfl | exact kd _ (Array.mem_of_getElem? (i := 3) rfl) rfl
        have t45 : ρ (.tmp 45) = .agg #[.int .i64 X.src, .int .i64 X.dst, .int .i64 X.proto, .int .i64 X.a, .int .i64 X.b, .int .i64 X.kind, .int .i64 X.flags, .int .i64 X.seq, .int .i64 X.ack, .string X.body, .int .i64 1] := (ks 0 45 (by decide) rfl).trans d0
        have d3 : v 3 = .agg #[.int .i64 X.src, .int .i64 X.dst, .int .i64 X.proto, .int .i64 X.a, .int .i64 X.b, .int .i64 X.kind, .int .i64 X.flags, .int .i64 X.seq, .int .i64 X.ack, .string X.body, .int .i64 1] := by first | exact kd _ (Array.mem_of_getElem? (i := 0) rfl) rfl | exact kd _ (Array.mem_of_getElem? (i := 1) rfl) rfl | exact kd _ (Array.mem_of_getElem? (i := 2) rfl) rfl | exact kd _ (Array.mem_of_getElem? (i := 3) rfl) rfl
        have t48 : ρ (.tmp 48) = .agg #[.int .i64 X.src, .int .i64 X.dst, .int .i64 X.proto, .int .i64 X.a, .int .i64 X.b, .int .i64 X.kind, .int .i64 X.flags, .int .i64 X.seq, .int .i64 X.ack, .string X.body, .int .i64 1] := (ks 3 48 (by decide) rfl).trans d3
        simp [execOp, go_sem, kc, t45, t48, eql_pko X 1 W]
        exact ⟨hC, Below.refl _ _, rfl⟩
      · refine stepW_of_u ⟨rfl, fun v W ρ hC kc kf ks ki kd => ?_⟩
        have d4 : v 4 = .bool true := by first | exact kd _ (Array.mem_of_getElem? (i := 0) rfl) rfl | exact kd _ (Array.mem_of_getElem? (i := 1) rfl) rfl | exact kd _ (Array.mem_of_getElem? (i := 2) rfl) rfl | exact kd _ (Array.mem_of_getElem? (i := 3) rfl) rfl
        have t49 : ρ (.tmp 49) = .bool true := (ks 4 49 (by decide) rfl).trans d4
        simp [execOp, go_sem, kc, t49]
        exact ⟨hC, Below.refl _ _, rfl⟩
      · intro v W ρ y hC kc kf ks ki ky ku kd
        have dg : v 5 = .bool true := by first | exact kd _ (Array.mem_of_getElem? (i := 0) rfl) rfl | exact kd _ (Array.mem_of_getElem? (i := 1) rfl) rfl | exact kd _ (Array.mem_of_getElem? (i := 2) rfl) rfl | exact kd _ (Array.mem_of_getElem? (i := 3) rfl) rfl
        have hy := ky 5 50 true (by decide) rfl dg
        rw [if_pos (by simp [Region.wanted, hy])]
        have t8 : ρ (.tmp 8) = .pointer (some ⟨gq, 0, none⟩) := ki 8 (by decide)
        have hg := blk_later hQ7.out hC
        have c0 := blk_cell hg 0
        have c1 := blk_cell hg 1
        have c2 := blk_cell hg 2
        have c3 := blk_cell hg 3
        have c4 := blk_cell hg 4
        have c5 := blk_cell hg 5
        have c6 := blk_cell hg 6
        have c7 := blk_cell hg 7
        have c8 := blk_cell hg 8
        have c9 := blk_cell hg 9
        simp at c0 c1 c2 c3 c4 c5 c6 c7 c8 c9
        simp [execOp, go_sem, kc, t8, c0, c1, c2, c3, c4, c5, c6, c7, c8, c9]
        exact ⟨hC, Below.refl _ _, rfl⟩
      · intro v W ρ y hC kc kf ks ki ky ku kd
        have dg : v 5 = .bool true := by first | exact kd _ (Array.mem_of_getElem? (i := 0) rfl) rfl | exact kd _ (Array.mem_of_getElem? (i := 1) rfl) rfl | exact kd _ (Array.mem_of_getElem? (i := 2) rfl) rfl | exact kd _ (Array.mem_of_getElem? (i := 3) rfl) rfl
        have hy := ky 5 50 true (by decide) rfl dg
        rw [if_pos (by simp [Region.wanted, hy])]
        have d6 : v 6 = .agg #[.int .i64 q.src, .int .i64 q.dst, .int .i64 q.proto, .int .i64 q.a, .int .i64 q.b, .int .i64 q.kind, .int .i64 q.flags, .int .i64 q.seq, .int .i64 q.ack, .string q.body] := by first | exact kd _ (Array.mem_of_getElem? (i := 0) rfl) rfl | exact kd _ (Array.mem_of_getElem? (i := 1) rfl) rfl | exact kd _ (Array.mem_of_getElem? (i := 2) rfl) rfl | exact kd _ (Array.mem_of_getElem? (i := 3) rfl) rfl
        have t51 : ρ (.tmp 51) = .agg #[.int .i64 q.src, .int .i64 q.dst, .int .i64 q.proto, .int .i64 q.a, .int .i64 q.b, .int .i64 q.kind, .int .i64 q.flags, .int .i64 q.seq, .int .i64 q.ack, .string q.body] := (ks 6 51 (by decide) rfl).trans d6
        simp [execOp, go_sem, t51, kf]
        exact Calls.mono (HQi.out W (hL7.out.trans (hC.mono hL7.out.size))) (fun e x h => ⟨_, h.1, hC.trans (h.2.mono hC.size), h.2, rfl⟩)
      · intro v W ρ y hC kc kf ks ki ky ku kd
        have dg : v 5 = .bool true := by first | exact kd _ (Array.mem_of_getElem? (i := 0) rfl) rfl | exact kd _ (Array.mem_of_getElem? (i := 1) rfl) rfl | exact kd _ (Array.mem_of_getElem? (i := 2) rfl) rfl | exact kd _ (Array.mem_of_getElem? (i := 3) rfl) rfl
        have hy := ky 5 50 true (by decide) rfl dg
        rw [if_pos (by simp [Region.wanted, hy])]
        have t8 : ρ (.tmp 8) = .pointer (some ⟨gq, 0, none⟩) := ki 8 (by decide)
        have hg := blk_later hQ7.out hC
        have c0 := blk_cell hg 0
        have c1 := blk_cell hg 1
        have c2 := blk_cell hg 2
        have c3 := blk_cell hg 3
        have c4 := blk_cell hg 4
        have c5 := blk_cell hg 5
        have c6 := blk_cell hg 6
        have c7 := blk_cell hg 7
        have c8 := blk_cell hg 8
        have c9 := blk_cell hg 9
        simp at c0 c1 c2 c3 c4 c5 c6 c7 c8 c9
        simp [execOp, go_sem, kc, t8, c0, c1, c2, c3, c4, c5, c6, c7, c8, c9]
        exact ⟨hC, Below.refl _ _, rfl⟩
      · intro v W ρ y hC kc kf ks ki ky ku kd
        have dg : v 5 = .bool true := by first | exact kd _ (Array.mem_of_getElem? (i := 0) rfl) rfl | exact kd _ (Array.mem_of_getElem? (i := 1) rfl) rfl | exact kd _ (Array.mem_of_getElem? (i := 2) rfl) rfl | exact kd _ (Array.mem_of_getElem? (i := 3) rfl) rfl
        have hy := ky 5 50 true (by decide) rfl dg
        rw [if_pos (by simp [Region.wanted, hy])]
        have d8 : v 8 = .agg #[.int .i64 q.src, .int .i64 q.dst, .int .i64 q.proto, .int .i64 q.a, .int .i64 q.b, .int .i64 q.kind, .int .i64 q.flags, .int .i64 q.seq, .int .i64 q.ack, .string q.body] := by first | exact kd _ (Array.mem_of_getElem? (i := 0) rfl) rfl | exact kd _ (Array.mem_of_getElem? (i := 1) rfl) rfl | exact kd _ (Array.mem_of_getElem? (i := 2) rfl) rfl | exact kd _ (Array.mem_of_getElem? (i := 3) rfl) rfl
        have t53 : ρ (.tmp 53) = .agg #[.int .i64 q.src, .int .i64 q.dst, .int .i64 q.proto, .int .i64 q.a, .int .i64 q.b, .int .i64 q.kind, .int .i64 q.flags, .int .i64 q.seq, .int .i64 q.ack, .string q.body] := (ks 8 53 (by decide) rfl).trans d8
        simp [execOp, go_sem, t53, kf]
        exact Calls.mono (HQsp.out W) (fun e x h => ⟨_, h.1, hC.trans (h.2.mono hC.size), h.2, rfl⟩)
      · intro v W ρ y hC kc kf ks ki ky ku kd
        have dg : v 5 = .bool true := by first | exact kd _ (Array.mem_of_getElem? (i := 0) rfl) rfl | exact kd _ (Array.mem_of_getElem? (i := 1) rfl) rfl | exact kd _ (Array.mem_of_getElem? (i := 2) rfl) rfl | exact kd _ (Array.mem_of_getElem? (i := 3) rfl) rfl
        have hy := ky 5 50 true (by decide) rfl dg
        rw [if_pos (by simp [Region.wanted, hy])]
        have d7 : v 7 = .agg #[.int .i64 I.src, .int .i64 I.dst, .int .i64 I.proto, .int .i64 I.a, .int .i64 I.b, .int .i64 I.kind, .int .i64 I.flags, .int .i64 I.seq, .int .i64 I.ack, .string I.body, .int .i64 D] := by first | exact kd _ (Array.mem_of_getElem? (i := 0) rfl) rfl | exact kd _ (Array.mem_of_getElem? (i := 1) rfl) rfl | exact kd _ (Array.mem_of_getElem? (i := 2) rfl) rfl | exact kd _ (Array.mem_of_getElem? (i := 3) rfl) rfl
        have t52 : ρ (.tmp 52) = .agg #[.int .i64 I.src, .int .i64 I.dst, .int .i64 I.proto, .int .i64 I.a, .int .i64 I.b, .int .i64 I.kind, .int .i64 I.flags, .int .i64 I.seq, .int .i64 I.ack, .string I.body, .int .i64 D] := (ks 7 52 (by decide) rfl).trans d7
        have d9 : v 9 = .agg #[.int .i64 I.src, .int .i64 I.dst, .int .i64 I.proto, .int .i64 I.a, .int .i64 I.b, .int .i64 I.kind, .int .i64 I.flags, .int .i64 I.seq, .int .i64 I.ack, .string I.body, .int .i64 D] := by first | exact kd _ (Array.mem_of_getElem? (i := 0) rfl) rfl | exact kd _ (Array.mem_of_getElem? (i := 1) rfl) rfl | exact kd _ (Array.mem_of_getElem? (i := 2) rfl) rfl | exact kd _ (Array.mem_of_getElem? (i := 3) rfl) rfl
        have t54 : ρ (.tmp 54) = .agg #[.int .i64 I.src, .int .i64 I.dst, .int .i64 I.proto, .int .i64 I.a, .int .i64 I.b, .int .i64 I.kind, .int .i64 I.flags, .int .i64 I.seq, .int .i64 I.ack, .string I.body, .int .i64 D] := (ks 9 54 (by decide) rfl).trans d9
        simp [execOp, go_sem, kc, t52, t54, eql_pko I D W]
        exact ⟨hC, Below.refl _ _, rfl⟩
      · refine stepW_of_u ⟨rfl, fun v W ρ hC kc kf ks ki kd => ?_⟩
        have d5 : v 5 = .bool true := by first | exact kd _ (Array.mem_of_getElem? (i := 0) rfl) rfl | exact kd _ (Array.mem_of_getElem? (i := 1) rfl) rfl | exact kd _ (Array.mem_of_getElem? (i := 2) rfl) rfl | exact kd _ (Array.mem_of_getElem? (i := 3) rfl) rfl
        have t50 : ρ (.tmp 50) = .bool true := (ks 5 50 (by decide) rfl).trans d5
        have d10 : v 10 = .bool true := by first | exact kd _ (Array.mem_of_getElem? (i := 0) rfl) rfl | exact kd _ (Array.mem_of_getElem? (i := 1) rfl) rfl | exact kd _ (Array.mem_of_getElem? (i := 2) rfl) rfl | exact kd _ (Array.mem_of_getElem? (i := 3) rfl) rfl
        have t55 : ρ (.tmp 55) = .bool true := (ks 10 55 (by decide) rfl).trans d10
        simp [execOp, go_sem, kc, t50, t55]
        exact ⟨hC, Below.refl _ _, rfl⟩
      · refine stepW_of_u ⟨rfl, fun v W ρ hC kc kf ks ki kd => ?_⟩
        have d11 : v 11 = .bool true := by first | exact kd _ (Array.mem_of_getElem? (i := 0) rfl) rfl | exact kd _ (Array.mem_of_getElem? (i := 1) rfl) rfl | exact kd _ (Array.mem_of_getElem? (i := 2) rfl) rfl | exact kd _ (Array.mem_of_getElem? (i := 3) rfl) rfl
        have t56 : ρ (.tmp 56) = .bool true := (ks 11 56 (by decide) rfl).trans d11
        simp [execOp, go_sem, kc, t56]
        exact ⟨hC, Below.refl _ _, rfl⟩
    intro v7 W7 hb7 hall
    have hv7 : v7 12 = .bool true := hall 12 (by decide)
    simp [upto, Act.put]
    rw [hv7]
    clear hall hv7
    have hL9 := hidS (hL7.out.trans (hb7.mono hL7.out.size))
    clear hb7 hL7 hP7 hX7 hQ7
    go_wp2_with fail
    go_ret
    exact ⟨rfl, hL9.out⟩
  · obtain ⟨hC0, eXr, eXd, eXs, eIC, eIP, eOf⟩ := hEt.out hE
    subst hC0
    clear hEf hEt hE
    have EXd := hidS eXd
    have EXs := hidS eXs
    have EIC := hidS eIC
    have EIP := hidS eIP
    have EOf := hidS eOf
    have EXr := hidS eXr
    clear eXd eXs eIC eIP eOf eXr
    refine grow_guarded 17 [.is (.agg #[.int .i64 X.src, .int .i64 X.dst, .int .i64 X.proto, .int .i64 X.a, .int .i64 X.b, .int .i64 X.kind, .int .i64 X.flags, .int .i64 X.seq, .int .i64 X.ack, .string X.body, .int .i64 0]), .is (.agg #[.int .i64 p.src, .int .i64 p.dst, .int .i64 p.proto, .int .i64 p.a, .int .i64 p.b, .int .i64 p.kind, .int .i64 p.flags, .int .i64 p.seq, .int .i64 p.ack, .string p.body]), .is (.int .i64 f), .is (.agg #[.int .i64 X.src, .int .i64 X.dst, .int .i64 X.proto, .int .i64 X.a, .int .i64 X.b, .int .i64 X.kind, .int .i64 X.flags, .int .i64 X.seq, .int .i64 X.ack, .string X.body, .int .i64 0]), .is (.bool false), .is (.bool false), .is (.agg #[.int .i64 q.src, .int .i64 q.dst, .int .i64 q.proto, .int .i64 q.a, .int .i64 q.b, .int .i64 q.kind, .int .i64 q.flags, .int .i64 q.seq, .int .i64 q.ack, .string q.body]), .is (.agg #[.int .i64 I.src, .int .i64 I.dst, .int .i64 I.proto, .int .i64 I.a, .int .i64 I.b, .int .i64 I.kind, .int .i64 I.flags, .int .i64 I.seq, .int .i64 I.ack, .string I.body, .int .i64 D]), .is (.agg #[.int .i64 q.src, .int .i64 q.dst, .int .i64 q.proto, .int .i64 q.a, .int .i64 q.b, .int .i64 q.kind, .int .i64 q.flags, .int .i64 q.seq, .int .i64 q.ack, .string q.body]), .is (.agg #[.int .i64 I.src, .int .i64 I.dst, .int .i64 I.proto, .int .i64 I.a, .int .i64 I.b, .int .i64 I.kind, .int .i64 I.flags, .int .i64 I.seq, .int .i64 I.ack, .string I.body, .int .i64 D]), .is (.bool false), .is (.bool false), .is (.bool false), .is (.pointer (some ⟨gx, 10, none⟩)), .is (.int .i64 0), .is (.bool false), .is (.bool false)] rfl (by kernel_rfl) (by kernel_rfl) ?steps6t ?fin6t
    case steps6t =>
      refine ⟨?_, ?_, ?_, ?_, ?_, ?_, ?_, ?_, ?_, ?_, ?_, ?_, ?_, ?_, ?_, ?_, ?_, trivial⟩
      · refine stepW_of_u ⟨rfl, fun v W ρ hC kc kf ks ki kd => ?_⟩
        have t7 : ρ (.tmp 7) = .pointer (some ⟨gx, 0, none⟩) := ki 7 (by decide)
        have hg := blk_later hX6.out hC
        have c0 := blk_cell hg 0
        have c1 := blk_cell hg 1
        have c2 := blk_cell hg 2
        have c3 := blk_cell hg 3
        have c4 := blk_cell hg 4
        have c5 := blk_cell hg 5
        have c6 := blk_cell hg 6
        have c7 := blk_cell hg 7
        have c8 := blk_cell hg 8
        have c9 := blk_cell hg 9
        have c10 := blk_cell hg 10
        simp at c0 c1 c2 c3 c4 c5 c6 c7 c8 c9 c10
        simp [execOp, go_sem, kc, t7, c0, c1, c2, c3, c4, c5, c6, c7, c8, c9, c10]
        exact ⟨hC, Below.refl _ _, rfl⟩
      · refine stepW_of_u ⟨rfl, fun v W ρ hC kc kf ks ki kd => ?_⟩
        have t5 : ρ (.tmp 5) = .pointer (some ⟨gp, 0, none⟩) := ki 5 (by decide)
        have hg := blk_later hP6.out hC
        have c0 := blk_cell hg 0
        have c1 := blk_cell hg 1
        have c2 := blk_cell hg 2
        have c3 := blk_cell hg 3
        have c4 := blk_cell hg 4
        have c5 := blk_cell hg 5
        have c6 := blk_cell hg 6
        have c7 := blk_cell hg 7
        have c8 := blk_cell hg 8
        have c9 := blk_cell hg 9
        simp at c0 c1 c2 c3 c4 c5 c6 c7 c8 c9
        simp [execOp, go_sem, kc, t5, c0, c1, c2, c3, c4, c5, c6, c7, c8, c9]
        exact ⟨hC, Below.refl _ _, rfl⟩
      · refine stepW_of_u ⟨rfl, fun v W ρ hC kc kf ks ki kd => ?_⟩
        have t6 : ρ (.tmp 6) = .int .i64 f := ki 6 (by decide)
        simp [execOp, go_sem, kc, t6]
        exact ⟨hC, Below.refl _ _, rfl⟩
      · refine stepW_of_u ⟨rfl, fun v W ρ hC kc kf ks ki kd => ?_⟩
        have d1 : v 1 = .agg #[.int .i64 p.src, .int .i64 p.dst, .int .i64 p.proto, .int .i64 p.a, .int .i64 p.b, .int .i64 p.kind, .int .i64 p.flags, .int .i64 p.seq, .int .i64 p.ack, .string p.body] := by first | exact kd _ (Array.mem_of_getElem? (i := 0) rfl) rfl | exact kd _ (Array.mem_of_getElem? (i := 1) rfl) rfl | exact kd _ (Array.mem_of_getElem? (i := 2) rfl) rfl | exact kd _ (Array.mem_of_getElem? (i := 3) rfl) rfl
        have t29 : ρ (.tmp 29) = .agg #[.int .i64 p.src, .int .i64 p.dst, .int .i64 p.proto, .int .i64 p.a, .int .i64 p.b, .int .i64 p.kind, .int .i64 p.flags, .int .i64 p.seq, .int .i64 p.ack, .string p.body] := (ks 1 29 (by decide) rfl).trans d1
        have d2 : v 2 = .int .i64 f := by first | exact kd _ (Array.mem_of_getElem? (i := 0) rfl) rfl | exact kd _ (Array.mem_of_getElem? (i := 1) rfl) rfl | exact kd _ (Array.mem_of_getElem? (i := 2) rfl) rfl | exact kd _ (Array.mem_of_getElem? (i := 3) rfl) rfl
        have t30 : ρ (.tmp 30) = .int .i64 f := (ks 2 30 (by decide) rfl).trans d2
        simp [execOp, go_sem, t29, t30, kf]
        exact Calls.mono (HSP.out W) (fun e x h => ⟨_, h.1, hC.trans (h.2.mono hC.size), h.2, rfl⟩)
      · refine stepW_of_u ⟨rfl, fun v W ρ hC kc kf ks ki kd => ?_⟩
        have d0 : v 0 = .agg #[.int .i64 X.src, .int .i64 X.dst, .int .i64 X.proto, .int .i64 X.a, .int .i64 X.b, .int .i64 X.kind, .int .i64 X.flags, .int .i64 X.seq, .int .i64 X.ack, .string X.body, .int .i64 0] := by first | exact kd _ (Array.mem_of_getElem? (i := 0) rfl) rfl | exact kd _ (Array.mem_of_getElem? (i := 1) rfl) rfl | exact kd _ (Array.mem_of_getElem? (i := 2) rfl) rfl | exact kd _ (Array.mem_of_getElem? (i := 3) rfl) rfl
        have t28 : ρ (.tmp 28) = .agg #[.int .i64 X.src, .int .i64 X.dst, .int .i64 X.proto, .int .i64 X.a, .int .i64 X.b, .int .i64 X.kind, .int .i64 X.flags, .int .i64 X.seq, .int .i64 X.ack, .string X.body, .int .i64 0] := (ks 0 28 (by decide) rfl).trans d0
        have d3 : v 3 = .agg #[.int .i64 X.src, .int .i64 X.dst, .int .i64 X.proto, .int .i64 X.a, .int .i64 X.b, .int .i64 X.kind, .int .i64 X.flags, .int .i64 X.seq, .int .i64 X.ack, .string X.body, .int .i64 0] := by first | exact kd _ (Array.mem_of_getElem? (i := 0) rfl) rfl | exact kd _ (Array.mem_of_getElem? (i := 1) rfl) rfl | exact kd _ (Array.mem_of_getElem? (i := 2) rfl) rfl | exact kd _ (Array.mem_of_getElem? (i := 3) rfl) rfl
        have t31 : ρ (.tmp 31) = .agg #[.int .i64 X.src, .int .i64 X.dst, .int .i64 X.proto, .int .i64 X.a, .int .i64 X.b, .int .i64 X.kind, .int .i64 X.flags, .int .i64 X.seq, .int .i64 X.ack, .string X.body, .int .i64 0] := (ks 3 31 (by decide) rfl).trans d3
        simp [execOp, go_sem, kc, t28, t31, neq_pko X (0) W]
        exact ⟨hC, Below.refl _ _, rfl⟩
      · refine stepW_of_u ⟨rfl, fun v W ρ hC kc kf ks ki kd => ?_⟩
        have d4 : v 4 = .bool false := by first | exact kd _ (Array.mem_of_getElem? (i := 0) rfl) rfl | exact kd _ (Array.mem_of_getElem? (i := 1) rfl) rfl | exact kd _ (Array.mem_of_getElem? (i := 2) rfl) rfl | exact kd _ (Array.mem_of_getElem? (i := 3) rfl) rfl
        have t32 : ρ (.tmp 32) = .bool false := (ks 4 32 (by decide) rfl).trans d4
        simp [execOp, go_sem, kc, t32]
        exact ⟨hC, Below.refl _ _, rfl⟩
      · intro v W ρ y hC kc kf ks ki ky ku kd
        have dg : v 5 = .bool false := by first | exact kd _ (Array.mem_of_getElem? (i := 0) rfl) rfl | exact kd _ (Array.mem_of_getElem? (i := 1) rfl) rfl | exact kd _ (Array.mem_of_getElem? (i := 2) rfl) rfl | exact kd _ (Array.mem_of_getElem? (i := 3) rfl) rfl
        have hy := ky 5 33 false (by decide) rfl dg
        rw [if_pos (by simp [Region.wanted, hy])]
        have t8 : ρ (.tmp 8) = .pointer (some ⟨gq, 0, none⟩) := ki 8 (by decide)
        have hg := blk_later hQ6.out hC
        have c0 := blk_cell hg 0
        have c1 := blk_cell hg 1
        have c2 := blk_cell hg 2
        have c3 := blk_cell hg 3
        have c4 := blk_cell hg 4
        have c5 := blk_cell hg 5
        have c6 := blk_cell hg 6
        have c7 := blk_cell hg 7
        have c8 := blk_cell hg 8
        have c9 := blk_cell hg 9
        simp at c0 c1 c2 c3 c4 c5 c6 c7 c8 c9
        simp [execOp, go_sem, kc, t8, c0, c1, c2, c3, c4, c5, c6, c7, c8, c9]
        exact ⟨hC, Below.refl _ _, rfl⟩
      · intro v W ρ y hC kc kf ks ki ky ku kd
        have dg : v 5 = .bool false := by first | exact kd _ (Array.mem_of_getElem? (i := 0) rfl) rfl | exact kd _ (Array.mem_of_getElem? (i := 1) rfl) rfl | exact kd _ (Array.mem_of_getElem? (i := 2) rfl) rfl | exact kd _ (Array.mem_of_getElem? (i := 3) rfl) rfl
        have hy := ky 5 33 false (by decide) rfl dg
        rw [if_pos (by simp [Region.wanted, hy])]
        have d6 : v 6 = .agg #[.int .i64 q.src, .int .i64 q.dst, .int .i64 q.proto, .int .i64 q.a, .int .i64 q.b, .int .i64 q.kind, .int .i64 q.flags, .int .i64 q.seq, .int .i64 q.ack, .string q.body] := by first | exact kd _ (Array.mem_of_getElem? (i := 0) rfl) rfl | exact kd _ (Array.mem_of_getElem? (i := 1) rfl) rfl | exact kd _ (Array.mem_of_getElem? (i := 2) rfl) rfl | exact kd _ (Array.mem_of_getElem? (i := 3) rfl) rfl
        have t34 : ρ (.tmp 34) = .agg #[.int .i64 q.src, .int .i64 q.dst, .int .i64 q.proto, .int .i64 q.a, .int .i64 q.b, .int .i64 q.kind, .int .i64 q.flags, .int .i64 q.seq, .int .i64 q.ack, .string q.body] := (ks 6 34 (by decide) rfl).trans d6
        simp [execOp, go_sem, t34, kf]
        exact Calls.mono (HQi.out W (hL6.out.trans (hC.mono hL6.out.size))) (fun e x h => ⟨_, h.1, hC.trans (h.2.mono hC.size), h.2, rfl⟩)
      · intro v W ρ y hC kc kf ks ki ky ku kd
        have dg : v 5 = .bool false := by first | exact kd _ (Array.mem_of_getElem? (i := 0) rfl) rfl | exact kd _ (Array.mem_of_getElem? (i := 1) rfl) rfl | exact kd _ (Array.mem_of_getElem? (i := 2) rfl) rfl | exact kd _ (Array.mem_of_getElem? (i := 3) rfl) rfl
        have hy := ky 5 33 false (by decide) rfl dg
        rw [if_pos (by simp [Region.wanted, hy])]
        have t8 : ρ (.tmp 8) = .pointer (some ⟨gq, 0, none⟩) := ki 8 (by decide)
        have hg := blk_later hQ6.out hC
        have c0 := blk_cell hg 0
        have c1 := blk_cell hg 1
        have c2 := blk_cell hg 2
        have c3 := blk_cell hg 3
        have c4 := blk_cell hg 4
        have c5 := blk_cell hg 5
        have c6 := blk_cell hg 6
        have c7 := blk_cell hg 7
        have c8 := blk_cell hg 8
        have c9 := blk_cell hg 9
        simp at c0 c1 c2 c3 c4 c5 c6 c7 c8 c9
        simp [execOp, go_sem, kc, t8, c0, c1, c2, c3, c4, c5, c6, c7, c8, c9]
        exact ⟨hC, Below.refl _ _, rfl⟩
      · intro v W ρ y hC kc kf ks ki ky ku kd
        have dg : v 5 = .bool false := by first | exact kd _ (Array.mem_of_getElem? (i := 0) rfl) rfl | exact kd _ (Array.mem_of_getElem? (i := 1) rfl) rfl | exact kd _ (Array.mem_of_getElem? (i := 2) rfl) rfl | exact kd _ (Array.mem_of_getElem? (i := 3) rfl) rfl
        have hy := ky 5 33 false (by decide) rfl dg
        rw [if_pos (by simp [Region.wanted, hy])]
        have d8 : v 8 = .agg #[.int .i64 q.src, .int .i64 q.dst, .int .i64 q.proto, .int .i64 q.a, .int .i64 q.b, .int .i64 q.kind, .int .i64 q.flags, .int .i64 q.seq, .int .i64 q.ack, .string q.body] := by first | exact kd _ (Array.mem_of_getElem? (i := 0) rfl) rfl | exact kd _ (Array.mem_of_getElem? (i := 1) rfl) rfl | exact kd _ (Array.mem_of_getElem? (i := 2) rfl) rfl | exact kd _ (Array.mem_of_getElem? (i := 3) rfl) rfl
        have t36 : ρ (.tmp 36) = .agg #[.int .i64 q.src, .int .i64 q.dst, .int .i64 q.proto, .int .i64 q.a, .int .i64 q.b, .int .i64 q.kind, .int .i64 q.flags, .int .i64 q.seq, .int .i64 q.ack, .string q.body] := (ks 8 36 (by decide) rfl).trans d8
        simp [execOp, go_sem, t36, kf]
        exact Calls.mono (HQsp.out W) (fun e x h => ⟨_, h.1, hC.trans (h.2.mono hC.size), h.2, rfl⟩)
      · intro v W ρ y hC kc kf ks ki ky ku kd
        have dg : v 5 = .bool false := by first | exact kd _ (Array.mem_of_getElem? (i := 0) rfl) rfl | exact kd _ (Array.mem_of_getElem? (i := 1) rfl) rfl | exact kd _ (Array.mem_of_getElem? (i := 2) rfl) rfl | exact kd _ (Array.mem_of_getElem? (i := 3) rfl) rfl
        have hy := ky 5 33 false (by decide) rfl dg
        rw [if_pos (by simp [Region.wanted, hy])]
        have d7 : v 7 = .agg #[.int .i64 I.src, .int .i64 I.dst, .int .i64 I.proto, .int .i64 I.a, .int .i64 I.b, .int .i64 I.kind, .int .i64 I.flags, .int .i64 I.seq, .int .i64 I.ack, .string I.body, .int .i64 D] := by first | exact kd _ (Array.mem_of_getElem? (i := 0) rfl) rfl | exact kd _ (Array.mem_of_getElem? (i := 1) rfl) rfl | exact kd _ (Array.mem_of_getElem? (i := 2) rfl) rfl | exact kd _ (Array.mem_of_getElem? (i := 3) rfl) rfl
        have t35 : ρ (.tmp 35) = .agg #[.int .i64 I.src, .int .i64 I.dst, .int .i64 I.proto, .int .i64 I.a, .int .i64 I.b, .int .i64 I.kind, .int .i64 I.flags, .int .i64 I.seq, .int .i64 I.ack, .string I.body, .int .i64 D] := (ks 7 35 (by decide) rfl).trans d7
        have d9 : v 9 = .agg #[.int .i64 I.src, .int .i64 I.dst, .int .i64 I.proto, .int .i64 I.a, .int .i64 I.b, .int .i64 I.kind, .int .i64 I.flags, .int .i64 I.seq, .int .i64 I.ack, .string I.body, .int .i64 D] := by first | exact kd _ (Array.mem_of_getElem? (i := 0) rfl) rfl | exact kd _ (Array.mem_of_getElem? (i := 1) rfl) rfl | exact kd _ (Array.mem_of_getElem? (i := 2) rfl) rfl | exact kd _ (Array.mem_of_getElem? (i := 3) rfl) rfl
        have t37 : ρ (.tmp 37) = .agg #[.int .i64 I.src, .int .i64 I.dst, .int .i64 I.proto, .int .i64 I.a, .int .i64 I.b, .int .i64 I.kind, .int .i64 I.flags, .int .i64 I.seq, .int .i64 I.ack, .string I.body, .int .i64 D] := (ks 9 37 (by decide) rfl).trans d9
        simp [execOp, go_sem, kc, t35, t37, neq_pko I D W]
        exact ⟨hC, Below.refl _ _, rfl⟩
      · refine stepW_of_u ⟨rfl, fun v W ρ hC kc kf ks ki kd => ?_⟩
        have d5 : v 5 = .bool false := by first | exact kd _ (Array.mem_of_getElem? (i := 0) rfl) rfl | exact kd _ (Array.mem_of_getElem? (i := 1) rfl) rfl | exact kd _ (Array.mem_of_getElem? (i := 2) rfl) rfl | exact kd _ (Array.mem_of_getElem? (i := 3) rfl) rfl
        have t33 : ρ (.tmp 33) = .bool false := (ks 5 33 (by decide) rfl).trans d5
        have d10 : v 10 = .bool false := by first | exact kd _ (Array.mem_of_getElem? (i := 0) rfl) rfl | exact kd _ (Array.mem_of_getElem? (i := 1) rfl) rfl | exact kd _ (Array.mem_of_getElem? (i := 2) rfl) rfl | exact kd _ (Array.mem_of_getElem? (i := 3) rfl) rfl
        have t38 : ρ (.tmp 38) = .bool false := (ks 10 38 (by decide) rfl).trans d10
        simp [execOp, go_sem, kc, t33, t38]
        exact ⟨hC, Below.refl _ _, rfl⟩
      · refine stepW_of_u ⟨rfl, fun v W ρ hC kc kf ks ki kd => ?_⟩
        have d11 : v 11 = .bool false := by first | exact kd _ (Array.mem_of_getElem? (i := 0) rfl) rfl | exact kd _ (Array.mem_of_getElem? (i := 1) rfl) rfl | exact kd _ (Array.mem_of_getElem? (i := 2) rfl) rfl | exact kd _ (Array.mem_of_getElem? (i := 3) rfl) rfl
        have t39 : ρ (.tmp 39) = .bool false := (ks 11 39 (by decide) rfl).trans d11
        simp [execOp, go_sem, kc, t39]
        exact ⟨hC, Below.refl _ _, rfl⟩
      · intro v W ρ y hC kc kf ks ki ky ku kd
        have dg : v 12 = .bool false := by first | exact kd _ (Array.mem_of_getElem? (i := 0) rfl) rfl | exact kd _ (Array.mem_of_getElem? (i := 1) rfl) rfl | exact kd _ (Array.mem_of_getElem? (i := 2) rfl) rfl | exact kd _ (Array.mem_of_getElem? (i := 3) rfl) rfl
        have hy := ky 12 40 false (by decide) rfl dg
        rw [if_pos (by simp [Region.wanted, hy])]
        have t7 : ρ (.tmp 7) = .pointer (some ⟨gx, 0, none⟩) := ki 7 (by decide)
        simp [execOp, go_sem, kc, t7]
        exact ⟨hC, Below.refl _ _, rfl⟩
      · intro v W ρ y hC kc kf ks ki ky ku kd
        have dg : v 12 = .bool false := by first | exact kd _ (Array.mem_of_getElem? (i := 0) rfl) rfl | exact kd _ (Array.mem_of_getElem? (i := 1) rfl) rfl | exact kd _ (Array.mem_of_getElem? (i := 2) rfl) rfl | exact kd _ (Array.mem_of_getElem? (i := 3) rfl) rfl
        have hy := ky 12 40 false (by decide) rfl dg
        rw [if_pos (by simp [Region.wanted, hy])]
        have d13 : v 13 = .pointer (some ⟨gx, 10, none⟩) := by first | exact kd _ (Array.mem_of_getElem? (i := 0) rfl) rfl | exact kd _ (Array.mem_of_getElem? (i := 1) rfl) rfl | exact kd _ (Array.mem_of_getElem? (i := 2) rfl) rfl | exact kd _ (Array.mem_of_getElem? (i := 3) rfl) rfl
        have t41 : ρ (.tmp 41) = .pointer (some ⟨gx, 10, none⟩) := (ks 13 41 (by decide) rfl).trans d13
        have hg := blk_later hX6.out hC
        have c10 := blk_cell hg 10
        simp at c10
        simp [execOp, go_sem, kc, t41, c10]
        exact ⟨hC, Below.refl _ _, rfl⟩
      · intro v W ρ y hC kc kf ks ki ky ku kd
        have dg : v 12 = .bool false := by first | exact kd _ (Array.mem_of_getElem? (i := 0) rfl) rfl | exact kd _ (Array.mem_of_getElem? (i := 1) rfl) rfl | exact kd _ (Array.mem_of_getElem? (i := 2) rfl) rfl | exact kd _ (Array.mem_of_getElem? (i := 3) rfl) rfl
        have hy := ky 12 40 false (by decide) rfl dg
        rw [if_pos (by simp [Region.wanted, hy])]
        have d14 : v 14 = .int .i64 0 := by first | exact kd _ (Array.mem_of_getElem? (i := 0) rfl) rfl | exact kd _ (Array.mem_of_getElem? (i := 1) rfl) rfl | exact kd _ (Array.mem_of_getElem? (i := 2) rfl) rfl | exact kd _ (Array.mem_of_getElem? (i := 3) rfl) rfl
        have t42 : ρ (.tmp 42) = .int .i64 0 := (ks 14 42 (by decide) rfl).trans d14
        simp [execOp, go_sem, kc, t42]
        exact ⟨hC, Below.refl _ _, rfl⟩
      · refine stepW_of_u ⟨rfl, fun v W ρ hC kc kf ks ki kd => ?_⟩
        have d12 : v 12 = .bool false := by first | exact kd _ (Array.mem_of_getElem? (i := 0) rfl) rfl | exact kd _ (Array.mem_of_getElem? (i := 1) rfl) rfl | exact kd _ (Array.mem_of_getElem? (i := 2) rfl) rfl | exact kd _ (Array.mem_of_getElem? (i := 3) rfl) rfl
        have t40 : ρ (.tmp 40) = .bool false := (ks 12 40 (by decide) rfl).trans d12
        have d15 : v 15 = .bool false := by first | exact kd _ (Array.mem_of_getElem? (i := 0) rfl) rfl | exact kd _ (Array.mem_of_getElem? (i := 1) rfl) rfl | exact kd _ (Array.mem_of_getElem? (i := 2) rfl) rfl | exact kd _ (Array.mem_of_getElem? (i := 3) rfl) rfl
        have t43 : ρ (.tmp 43) = .bool false := (ks 15 43 (by decide) rfl).trans d15
        simp [execOp, go_sem, kc, t40, t43]
        exact ⟨hC, Below.refl _ _, rfl⟩
    intro v6t W6t hb6t hall
    have hv6t : v6t 16 = .bool false := hall 16 (by decide)
    simp [upto, Act.put]
    rw [hv6t]
    clear hall hv6t
    have hL7 := hidS (hL6.out.trans (hb6t.mono hL6.out.size))
    have hP7 := hidS (blk_later hP6.out hb6t)
    have hX7 := hidS (blk_later hX6.out hb6t)
    clear hb6t hL6 hP6 hX6 hQ6
    have hl9 := hX7.out
    have x0 := blk_cell hl9 0
    have x1 := blk_cell hl9 1
    have x2 := blk_cell hl9 2
    have x3 := blk_cell hl9 3
    have x4 := blk_cell hl9 4
    have x5 := blk_cell hl9 5
    have x6 := blk_cell hl9 6
    have x7 := blk_cell hl9 7
    have x8 := blk_cell hl9 8
    have x9 := blk_cell hl9 9
    have x10 := blk_cell hl9 10
    simp at x0 x1 x2 x3 x4 x5 x6 x7 x8 x9 x10
    clear hl9
    go_wp2_with fail
    refine (HYi.out W6t hL7.out).mono ?_
    rintro _ w8 ⟨rfl, hb8⟩
    clear x0 x1 x2 x3 x4 x5 x6 x7 x8 x9 x10
    rw [EIC.out, EIP.out]
    have eYb : (bareP p).body = ⟨#[]⟩ := rfl
    have HTy := hidS (fun W => implTOf_any (bareP p) W (small_max (by rw [eYb]; exact Nat.zero_le _)))
    rw [EOf.out] at HTy
    have EYb := hidS eYb
    clear eYb
    generalize bareP p = Y at *
    have hL8 := hidS (hL7.out.trans (hb8.mono hL7.out.size))
    have hL9 := hidS (hL8.out.alloc hL8.out.size (.cells #[.int .i64 Y.src, .int .i64 Y.dst, .int .i64 Y.proto, .int .i64 Y.a, .int .i64 Y.b, .int .i64 Y.kind, .int .i64 Y.flags, .int .i64 Y.seq, .int .i64 Y.ack, .string Y.body, .int .i64 0] 39))
    have hP9 := hidS (blk_alloc (blk_later hP7.out hb8) (.cells #[.int .i64 Y.src, .int .i64 Y.dst, .int .i64 Y.proto, .int .i64 Y.a, .int .i64 Y.b, .int .i64 Y.kind, .int .i64 Y.flags, .int .i64 Y.seq, .int .i64 Y.ack, .string Y.body, .int .i64 0] 39))
    have hX9 := hidS (blk_alloc (blk_later hX7.out hb8) (.cells #[.int .i64 Y.src, .int .i64 Y.dst, .int .i64 Y.proto, .int .i64 Y.a, .int .i64 Y.b, .int .i64 Y.kind, .int .i64 Y.flags, .int .i64 Y.seq, .int .i64 Y.ack, .string Y.body, .int .i64 0] 39))
    have hY9 := hidS (heap_newG w8 (.cells #[.int .i64 Y.src, .int .i64 Y.dst, .int .i64 Y.proto, .int .i64 Y.a, .int .i64 Y.b, .int .i64 Y.kind, .int .i64 Y.flags, .int .i64 Y.seq, .int .i64 Y.ack, .string Y.body, .int .i64 0] 39))
    clear hb8 hL7 hP7 hX7 hL8
    go_upto_region 9 with fail
    generalize w8.alloc (.cells #[.int .i64 Y.src, .int .i64 Y.dst, .int .i64 Y.proto, .int .i64 Y.a, .int .i64 Y.b, .int .i64 Y.kind, .int .i64 Y.flags, .int .i64 Y.seq, .int .i64 Y.ack, .string Y.body, .int .i64 0] 39) = w9 at hL9 hP9 hX9 hY9 ⊢
    generalize w8.heap.size = gy at *
    have hqT : ∀ W, (binOp .eql 45 (.agg #[.int .i64 (ofAns p).proto, .int .i64 (ofAns p).src, .int .i64 (ofAns p).sport, .int .i64 (ofAns p).dst, .int .i64 (ofAns p).dport, .int .i64 (ofAns p).kind]) (.agg #[.int .i64 (ofAns p).proto, .int .i64 (ofAns p).src, .int .i64 (ofAns p).sport, .int .i64 (ofAns p).dst, .int .i64 (ofAns p).dport, .int .i64 (ofAns p).kind])).run Tryd.prog W = .ok (.bool true) W := fun W => by rw [eql_tup, sameT_iff.2 rfl]
    have HXr : Hid (∀ W, Calls Tryd.prog 19 #[.agg #[.int .i64 X.src, .int .i64 X.dst, .int .i64 X.proto, .int .i64 X.a, .int .i64 X.b, .int .i64 X.kind, .int .i64 X.flags, .int .i64 X.seq, .int .i64 X.ack, .string X.body]] W fun e w' => e = .returned (.bool true) ∧ Below W.heap.size W w') := by rw [EXr.out] at HXr; exact HXr
    have eXd := EXd.out
    have eYb := EYb.out
    have eXs := EXs.out
    generalize ofAns p = TT at *
    refine grow_guarded 38 [.is (.pointer (some ⟨gx, 0, none⟩)), .is (.agg #[.int .i64 X.src, .int .i64 X.dst, .int .i64 X.proto, .int .i64 X.a, .int .i64 X.b, .int .i64 X.kind, .int .i64 X.flags, .int .i64 X.seq, .int .i64 X.ack, .string X.body]), .is (.bool true), .is (.bool true), .is (.pointer (some ⟨gx, 0, none⟩)), .is (.pointer (some ⟨gx, 1, none⟩)), .is (.int .i64 X.dst), .is (.pointer (some ⟨gp, 0, none⟩)), .is (.int .i64 p.src), .is (.bool true), .is (.bool true), .is (.bool true), .is (.pointer (some ⟨gx, 0, none⟩)), .is (.pointer (some ⟨gx, 0, none⟩)), .is (.int .i64 X.src), .is (.int .i64 f), .is (.bool true), .is (.bool true), .is (.bool true), .is (.pointer (some ⟨gy, 10, none⟩)), .is (.int .i64 0), .is (.bool true), .is (.bool true), .is (.bool true), .is (.pointer (some ⟨gy, 0, none⟩)), .is (.agg #[.int .i64 Y.src, .int .i64 Y.dst, .int .i64 Y.proto, .int .i64 Y.a, .int .i64 Y.b, .int .i64 Y.kind, .int .i64 Y.flags, .int .i64 Y.seq, .int .i64 Y.ack, .string Y.body]), .is (.agg #[.int .i64 TT.proto, .int .i64 TT.src, .int .i64 TT.sport, .int .i64 TT.dst, .int .i64 TT.dport, .int .i64 TT.kind]), .is (.agg #[.int .i64 p.src, .int .i64 p.dst, .int .i64 p.proto, .int .i64 p.a, .int .i64 p.b, .int .i64 p.kind, .int .i64 p.flags, .int .i64 p.seq, .int .i64 p.ack, .string p.body]), .is (.agg #[.int .i64 TT.proto, .int .i64 TT.src, .int .i64 TT.sport, .int .i64 TT.dst, .int .i64 TT.dport, .int .i64 TT.kind]), .is (.bool true), .is (.bool true), .is (.bool true), .is (.pointer (some ⟨gy, 0, none⟩)), .is (.pointer (some ⟨gy, 9, none⟩)), .is (.string Y.body), .is (.bool true), .is (.bool true), .is (.bool true)] rfl (by kernel_rfl) (by kernel_rfl) ?steps9 ?fin9
    case steps9 =>
      refine ⟨?_, ?_, ?_, ?_, ?_, ?_, ?_, ?_, ?_, ?_, ?_, ?_, ?_, ?_, ?_, ?_, ?_, ?_, ?_, ?_, ?_, ?_, ?_, ?_, ?_, ?_, ?_, ?_, ?_, ?_, ?_, ?_, ?_, ?_, ?_, ?_, ?_, ?_, trivial⟩
      · refine stepW_of_u ⟨rfl, fun v W ρ hC kc kf ks ki kd => ?_⟩
        have t7 : ρ (.tmp 7) = .pointer (some ⟨gx, 0, none⟩) := ki 7 (by decide)
        simp [execOp, go_sem, kc, t7]
        exact ⟨hC, Below.refl _ _, rfl⟩
      · refine stepW_of_u ⟨rfl, fun v W ρ hC kc kf ks ki kd => ?_⟩
        have d0 : v 0 = .pointer (some ⟨gx, 0, none⟩) := by first | exact kd _ (Array.mem_of_getElem? (i := 0) rfl) rfl | exact kd _ (Array.mem_of_getElem? (i := 1) rfl) rfl | exact kd _ (Array.mem_of_getElem? (i := 2) rfl) rfl | exact kd _ (Array.mem_of_getElem? (i := 3) rfl) rfl
        have t60 : ρ (.tmp 60) = .pointer (some ⟨gx, 0, none⟩) := (ks 0 60 (by decide) rfl).trans d0
        have hg := blk_later hX9.out hC
        have c0 := blk_cell hg 0
        have c1 := blk_cell hg 1
        have c2 := blk_cell hg 2
        have c3 := blk_cell hg 3
        have c4 := blk_cell hg 4
        have c5 := blk_cell hg 5
        have c6 := blk_cell hg 6
        have c7 := blk_cell hg 7
        have c8 := blk_cell hg 8
        have c9 := blk_cell hg 9
        have c10 := blk_cell hg 10
        simp at c0 c1 c2 c3 c4 c5 c6 c7 c8 c9 c10
        simp [execOp, go_sem, kc, t60, c0, c1, c2, c3, c4, c5, c6, c7, c8, c9, c10]
        exact ⟨hC, Below.refl _ _, rfl⟩
      · refine stepW_of_u ⟨rfl, fun v W ρ hC kc kf ks ki kd => ?_⟩
        have d1 : v 1 = .agg #[.int .i64 X.src, .int .i64 X.dst, .int .i64 X.proto, .int .i64 X.a, .int .i64 X.b, .int .i64 X.kind, .int .i64 X.flags, .int .i64 X.seq, .int .i64 X.ack, .string X.body] := by first | exact kd _ (Array.mem_of_getElem? (i := 0) rfl) rfl | exact kd _ (Array.mem_of_getElem? (i := 1) rfl) rfl | exact kd _ (Array.mem_of_getElem? (i := 2) rfl) rfl | exact kd _ (Array.mem_of_getElem? (i := 3) rfl) rfl
        have t61 : ρ (.tmp 61) = .agg #[.int .i64 X.src, .int .i64 X.dst, .int .i64 X.proto, .int .i64 X.a, .int .i64 X.b, .int .i64 X.kind, .int .i64 X.flags, .int .i64 X.seq, .int .i64 X.ack, .string X.body] := (ks 1 61 (by decide) rfl).trans d1
        simp [execOp, go_sem, t61, kf]
        exact Calls.mono (HXr.out W) (fun e x h => ⟨_, h.1, hC.trans (h.2.mono hC.size), h.2, rfl⟩)
      · refine stepW_of_u ⟨rfl, fun v W ρ hC kc kf ks ki kd => ?_⟩
        have d2 : v 2 = .bool true := by first | exact kd _ (Array.mem_of_getElem? (i := 0) rfl) rfl | exact kd _ (Array.mem_of_getElem? (i := 1) rfl) rfl | exact kd _ (Array.mem_of_getElem? (i := 2) rfl) rfl | exact kd _ (Array.mem_of_getElem? (i := 3) rfl) rfl
        have t62 : ρ (.tmp 62) = .bool true := (ks 2 62 (by decide) rfl).trans d2
        simp [execOp, go_sem, kc, t62]
        exact ⟨hC, Below.refl _ _, rfl⟩
      · intro v W ρ y hC kc kf ks ki ky ku kd
        have dg : v 3 = .bool true := by first | exact kd _ (Array.mem_of_getElem? (i := 0) rfl) rfl | exact kd _ (Array.mem_of_getElem? (i := 1) rfl) rfl | exact kd _ (Array.mem_of_getElem? (i := 2) rfl) rfl | exact kd _ (Array.mem_of_getElem? (i := 3) rfl) rfl
        have hy := ky 3 63 true (by decide) rfl dg
        rw [if_pos (by simp [Region.wanted, hy])]
        have t7 : ρ (.tmp 7) = .pointer (some ⟨gx, 0, none⟩) := ki 7 (by decide)
        simp [execOp, go_sem, kc, t7]
        exact ⟨hC, Below.refl _ _, rfl⟩
      · intro v W ρ y hC kc kf ks ki ky ku kd
        have dg : v 3 = .bool true := by first | exact kd _ (Array.mem_of_getElem? (i := 0) rfl) rfl | exact kd _ (Array.mem_of_getElem? (i := 1) rfl) rfl | exact kd _ (Array.mem_of_getElem? (i := 2) rfl) rfl | exact kd _ (Array.mem_of_getElem? (i := 3) rfl) rfl
        have hy := ky 3 63 true (by decide) rfl dg
        rw [if_pos (by simp [Region.wanted, hy])]
        have d4 : v 4 = .pointer (some ⟨gx, 0, none⟩) := by first | exact kd _ (Array.mem_of_getElem? (i := 0) rfl) rfl | exact kd _ (Array.mem_of_getElem? (i := 1) rfl) rfl | exact kd _ (Array.mem_of_getElem? (i := 2) rfl) rfl | exact kd _ (Array.mem_of_getElem? (i := 3) rfl) rfl
        have t64 : ρ (.tmp 64) = .pointer (some ⟨gx, 0, none⟩) := (ks 4 64 (by decide) rfl).trans d4
        simp [execOp, go_sem, kc, t64]
        exact ⟨hC, Below.refl _ _, rfl⟩
      · intro v W ρ y hC kc kf ks ki ky ku kd
        have dg : v 3 = .bool true := by first | exact kd _ (Array.mem_of_getElem? (i := 0) rfl) rfl | exact kd _ (Array.mem_of_getElem? (i := 1) rfl) rfl | exact kd _ (Array.mem_of_getElem? (i := 2) rfl) rfl | exact kd _ (Array.mem_of_getElem? (i := 3) rfl) rfl
        have hy := ky 3 63 true (by decide) rfl dg
        rw [if_pos (by simp [Region.wanted, hy])]
        have d5 : v 5 = .pointer (some ⟨gx, 1, none⟩) := by first | exact kd _ (Array.mem_of_getElem? (i := 0) rfl) rfl | exact kd _ (Array.mem_of_getElem? (i := 1) rfl) rfl | exact kd _ (Array.mem_of_getElem? (i := 2) rfl) rfl | exact kd _ (Array.mem_of_getElem? (i := 3) rfl) rfl
        have t65 : ρ (.tmp 65) = .pointer (some ⟨gx, 1, none⟩) := (ks 5 65 (by decide) rfl).trans d5
        have hg := blk_later hX9.out hC
        have c1 := blk_cell hg 1
        simp at c1
        simp [execOp, go_sem, kc, t65, c1]
        exact ⟨hC, Below.refl _ _, rfl⟩
      · intro v W ρ y hC kc kf ks ki ky ku kd
        have dg : v 3 = .bool true := by first | exact kd _ (Array.mem_of_getElem? (i := 0) rfl) rfl | exact kd _ (Array.mem_of_getElem? (i := 1) rfl) rfl | exact kd _ (Array.mem_of_getElem? (i := 2) rfl) rfl | exact kd _ (Array.mem_of_getElem? (i := 3) rfl) rfl
        have hy := ky 3 63 true (by decide) rfl dg
        rw [if_pos (by simp [Region.wanted, hy])]
        have t5 : ρ (.tmp 5) = .pointer (some ⟨gp, 0, none⟩) := ki 5 (by decide)
        simp [execOp, go_sem, kc, t5]
        exact ⟨hC, Below.refl _ _, rfl⟩
      · intro v W ρ y hC kc kf ks ki ky ku kd
        have dg : v 3 = .bool true := by first | exact kd _ (Array.mem_of_getElem? (i := 0) rfl) rfl | exact kd _ (Array.mem_of_getElem? (i := 1) rfl) rfl | exact kd _ (Array.mem_of_getElem? (i := 2) rfl) rfl | exact kd _ (Array.mem_of_getElem? (i := 3) rfl) rfl
        have hy := ky 3 63 true (by decide) rfl dg
        rw [if_pos (by simp [Region.wanted, hy])]
        have d7 : v 7 = .pointer (some ⟨gp, 0, none⟩) := by first | exact kd _ (Array.mem_of_getElem? (i := 0) rfl) rfl | exact kd _ (Array.mem_of_getElem? (i := 1) rfl) rfl | exact kd _ (Array.mem_of_getElem? (i := 2) rfl) rfl | exact kd _ (Array.mem_of_getElem? (i := 3) rfl) rfl
        have t67 : ρ (.tmp 67) = .pointer (some ⟨gp, 0, none⟩) := (ks 7 67 (by decide) rfl).trans d7
        have hg := blk_later hP9.out hC
        have c0 := blk_cell hg 0
        simp at c0
        simp [execOp, go_sem, kc, t67, c0]
        exact ⟨hC, Below.refl _ _, rfl⟩
      · intro v W ρ y hC kc kf ks ki ky ku kd
        have dg : v 3 = .bool true := by first | exact kd _ (Array.mem_of_getElem? (i := 0) rfl) rfl | exact kd _ (Array.mem_of_getElem? (i := 1) rfl) rfl | exact kd _ (Array.mem_of_getElem? (i := 2) rfl) rfl | exact kd _ (Array.mem_of_getElem? (i := 3) rfl) rfl
        have hy := ky 3 63 true (by decide) rfl dg
        rw [if_pos (by simp [Region.wanted, hy])]
        have d6 : v 6 = .int .i64 X.dst := by first | exact kd _ (Array.mem_of_getElem? (i := 0) rfl) rfl | exact kd _ (Array.mem_of_getElem? (i := 1) rfl) rfl | exact kd _ (Array.mem_of_getElem? (i := 2) rfl) rfl | exact kd _ (Array.mem_of_getElem? (i := 3) rfl) rfl
        have t66 : ρ (.tmp 66) = .int .i64 X.dst := (ks 6 66 (by decide) rfl).trans d6
        have d8 : v 8 = .int .i64 p.src := by first | exact kd _ (Array.mem_of_getElem? (i := 0) rfl) rfl | exact kd _ (Array.mem_of_getElem? (i := 1) rfl) rfl | exact kd _ (Array.mem_of_getElem? (i := 2) rfl) rfl | exact kd _ (Array.mem_of_getElem? (i := 3) rfl) rfl
        have t68 : ρ (.tmp 68) = .int .i64 p.src := (ks 8 68 (by decide) rfl).trans d8
        simp [execOp, go_sem, kc, t66, t68, eXd]
        exact ⟨hC, Below.refl _ _, rfl⟩
      · refine stepW_of_u ⟨rfl, fun v W ρ hC kc kf ks ki kd => ?_⟩
        have d3 : v 3 = .bool true := by first | exact kd _ (Array.mem_of_getElem? (i := 0) rfl) rfl | exact kd _ (Array.mem_of_getElem? (i := 1) rfl) rfl | exact kd _ (Array.mem_of_getElem? (i := 2) rfl) rfl | exact kd _ (Array.mem_of_getElem? (i := 3) rfl) rfl
        have t63 : ρ (.tmp 63) = .bool true := (ks 3 63 (by decide) rfl).trans d3
        have d9 : v 9 = .bool true := by first | exact kd _ (Array.mem_of_getElem? (i := 0) rfl) rfl | exact kd _ (Array.mem_of_getElem? (i := 1) rfl) rfl | exact kd _ (Array.mem_of_getElem? (i := 2) rfl) rfl | exact kd _ (Array.mem_of_getElem? (i := 3) rfl) rfl
        have t69 : ρ (.tmp 69) = .bool true := (ks 9 69 (by decide) rfl).trans d9
        simp [execOp, go_sem, kc, t63, t69]
        exact ⟨hC, Below.refl _ _, rfl⟩
      · refine stepW_of_u ⟨rfl, fun v W ρ hC kc kf ks ki kd => ?_⟩
        have d10 : v 10 = .bool true := by first | exact kd _ (Array.mem_of_getElem? (i := 0) rfl) rfl | exact kd _ (Array.mem_of_getElem? (i := 1) rfl) rfl | exact kd _ (Array.mem_of_getElem? (i := 2) rfl) rfl | exact kd _ (Array.mem_of_getElem? (i := 3) rfl) rfl
        have t70 : ρ (.tmp 70) = .bool true := (ks 10 70 (by decide) rfl).trans d10
        simp [execOp, go_sem, kc, t70]
        exact ⟨hC, Below.refl _ _, rfl⟩
      · intro v W ρ y hC kc kf ks ki ky ku kd
        have dg : v 11 = .bool true := by first | exact kd _ (Array.mem_of_getElem? (i := 0) rfl) rfl | exact kd _ (Array.mem_of_getElem? (i := 1) rfl) rfl | exact kd _ (Array.mem_of_getElem? (i := 2) rfl) rfl | exact kd _ (Array.mem_of_getElem? (i := 3) rfl) rfl
        have hy := ky 11 71 true (by decide) rfl dg
        rw [if_pos (by simp [Region.wanted, hy])]
        have t7 : ρ (.tmp 7) = .pointer (some ⟨gx, 0, none⟩) := ki 7 (by decide)
        simp [execOp, go_sem, kc, t7]
        exact ⟨hC, Below.refl _ _, rfl⟩
      · intro v W ρ y hC kc kf ks ki ky ku kd
        have dg : v 11 = .bool true := by first | exact kd _ (Array.mem_of_getElem? (i := 0) rfl) rfl | exact kd _ (Array.mem_of_getElem? (i := 1) rfl) rfl | exact kd _ (Array.mem_of_getElem? (i := 2) rfl) rfl | exact kd _ (Array.mem_of_getElem? (i := 3) rfl) rfl
        have hy := ky 11 71 true (by decide) rfl dg
        rw [if_pos (by simp [Region.wanted, hy])]
        have d12 : v 12 = .pointer (some ⟨gx, 0, none⟩) := by first | exact kd _ (Array.mem_of_getElem? (i := 0) rfl) rfl | exact kd _ (Array.mem_of_getElem? (i := 1) rfl) rfl | exact kd _ (Array.mem_of_getElem? (i := 2) rfl) rfl | exact kd _ (Array.mem_of_getElem? (i := 3) rfl) rfl
        have t72 : ρ (.tmp 72) = .pointer (some ⟨gx, 0, none⟩) := (ks 12 72 (by decide) rfl).trans d12
        simp [execOp, go_sem, kc, t72]
        exact ⟨hC, Below.refl _ _, rfl⟩
      · intro v W ρ y hC kc kf ks ki ky ku kd
        have dg : v 11 = .bool true := by first | exact kd _ (Array.mem_of_getElem? (i := 0) rfl) rfl | exact kd _ (Array.mem_of_getElem? (i := 1) rfl) rfl | exact kd _ (Array.mem_of_getElem? (i := 2) rfl) rfl | exact kd _ (Array.mem_of_getElem? (i := 3) rfl) rfl
        have hy := ky 11 71 true (by decide) rfl dg
        rw [if_pos (by simp [Region.wanted, hy])]
        have d13 : v 13 = .pointer (some ⟨gx, 0, none⟩) := by first | exact kd _ (Array.mem_of_getElem? (i := 0) rfl) rfl | exact kd _ (Array.mem_of_getElem? (i := 1) rfl) rfl | exact kd _ (Array.mem_of_getElem? (i := 2) rfl) rfl | exact kd _ (Array.mem_of_getElem? (i := 3) rfl) rfl
        have t73 : ρ (.tmp 73) = .pointer (some ⟨gx, 0, none⟩) := (ks 13 73 (by decide) rfl).trans d13
        have hg := blk_later hX9.out hC
        have c0 := blk_cell hg 0
        simp at c0
        simp [execOp, go_sem, kc, t73, c0]
        exact ⟨hC, Below.refl _ _, rfl⟩
      · intro v W ρ y hC kc kf ks ki ky ku kd
        have dg : v 11 = .bool true := by first | exact kd _ (Array.mem_of_getElem? (i := 0) rfl) rfl | exact kd _ (Array.mem_of_getElem? (i := 1) rfl) rfl | exact kd _ (Array.mem_of_getElem? (i := 2) rfl) rfl | exact kd _ (Array.mem_of_getElem? (i := 3) rfl) rfl
        have hy := ky 11 71 true (by decide) rfl dg
        rw [if_pos (by simp [Region.wanted, hy])]
        have t6 : ρ (.tmp 6) = .int .i64 f := ki 6 (by decide)
        simp [execOp, go_sem, kc, t6]
        exact ⟨hC, Below.refl _ _, rfl⟩
      · intro v W ρ y hC kc kf ks ki ky ku kd
        have dg : v 11 = .bool true := by first | exact kd _ (Array.mem_of_getElem? (i := 0) rfl) rfl | exact kd _ (Array.mem_of_getElem? (i := 1) rfl) rfl | exact kd _ (Array.mem_of_getElem? (i := 2) rfl) rfl | exact kd _ (Array.mem_of_getElem? (i := 3) rfl) rfl
        have hy := ky 11 71 true (by decide) rfl dg
        rw [if_pos (by simp [Region.wanted, hy])]
        have d14 : v 14 = .int .i64 X.src := by first | exact kd _ (Array.mem_of_getElem? (i := 0) rfl) rfl | exact kd _ (Array.mem_of_getElem? (i := 1) rfl) rfl | exact kd _ (Array.mem_of_getElem? (i := 2) rfl) rfl | exact kd _ (Array.mem_of_getElem? (i := 3) rfl) rfl
        have t74 : ρ (.tmp 74) = .int .i64 X.src := (ks 14 74 (by decide) rfl).trans d14
        have d15 : v 15 = .int .i64 f := by first | exact kd _ (Array.mem_of_getElem? (i := 0) rfl) rfl | exact kd _ (Array.mem_of_getElem? (i := 1) rfl) rfl | exact kd _ (Array.mem_of_getElem? (i := 2) rfl) rfl | exact kd _ (Array.mem_of_getElem? (i := 3) rfl) rfl
        have t75 : ρ (.tmp 75) = .int .i64 f := (ks 15 75 (by decide) rfl).trans d15
        simp [execOp, go_sem, kc, t74, t75, eXs]
        exact ⟨hC, Below.refl _ _, rfl⟩
      · refine stepW_of_u ⟨rfl, fun v W ρ hC kc kf ks ki kd => ?_⟩
        have d11 : v 11 = .bool true := by first | exact kd _ (Array.mem_of_getElem? (i := 0) rfl) rfl | exact kd _ (Array.mem_of_getElem? (i := 1) rfl) rfl | exact kd _ (Array.mem_of_getElem? (i := 2) rfl) rfl | exact kd _ (Array.mem_of_getElem? (i := 3) rfl) rfl
        have t71 : ρ (.tmp 71) = .bool true := (ks 11 71 (by decide) rfl).trans d11
        have d16 : v 16 = .bool true := by first | exact kd _ (Array.mem_of_getElem? (i := 0) rfl) rfl | exact kd _ (Array.mem_of_getElem? (i := 1) rfl) rfl | exact kd _ (Array.mem_of_getElem? (i := 2) rfl) rfl | exact kd _ (Array.mem_of_getElem? (i := 3) rfl) rfl
        have t76 : ρ (.tmp 76) = .bool true := (ks 16 76 (by decide) rfl).trans d16
        simp [execOp, go_sem, kc, t71, t76]
        exact ⟨hC, Below.refl _ _, rfl⟩
      · refine stepW_of_u ⟨rfl, fun v W ρ hC kc kf ks ki kd => ?_⟩
        have d17 : v 17 = .bool true := by first | exact kd _ (Array.mem_of_getElem? (i := 0) rfl) rfl | exact kd _ (Array.mem_of_getElem? (i := 1) rfl) rfl | exact kd _ (Array.mem_of_getElem? (i := 2) rfl) rfl | exact kd _ (Array.mem_of_getElem? (i := 3) rfl) rfl
        have t77 : ρ (.tmp 77) = .bool true := (ks 17 77 (by decide) rfl).trans d17
        simp [execOp, go_sem, kc, t77]
        exact ⟨hC, Below.refl _ _, rfl⟩
      · intro v W ρ y hC kc kf ks ki ky ku kd
        have dg : v 18 = .bool true := by first | exact kd _ (Array.mem_of_getElem? (i := 0) rfl) rfl | exact kd _ (Array.mem_of_getElem? (i := 1) rfl) rfl | exact kd _ (Array.mem_of_getElem? (i := 2) rfl) rfl | exact kd _ (Array.mem_of_getElem? (i := 3) rfl) rfl
        have hy := ky 18 78 true (by decide) rfl dg
        rw [if_pos (by simp [Region.wanted, hy])]
        have t9 : ρ (.tmp 9) = .pointer (some ⟨gy, 0, none⟩) := ki 9 (by decide)
        simp [execOp, go_sem, kc, t9]
        exact ⟨hC, Below.refl _ _, rfl⟩
      · intro v W ρ y hC kc kf ks ki ky ku kd
        have dg : v 18 = .bool true := by first | exact kd _ (Array.mem_of_getElem? (i := 0) rfl) rfl | exact kd _ (Array.mem_of_getElem? (i := 1) rfl) rfl | exact kd _ (Array.mem_of_getElem? (i := 2) rfl) rfl | exact kd _ (Array.mem_of_getElem? (i := 3) rfl) rfl
        have hy := ky 18 78 true (by decide) rfl dg
        rw [if_pos (by simp [Region.wanted, hy])]
        have d19 : v 19 = .pointer (some ⟨gy, 10, none⟩) := by first | exact kd _ (Array.mem_of_getElem? (i := 0) rfl) rfl | exact kd _ (Array.mem_of_getElem? (i := 1) rfl) rfl | exact kd _ (Array.mem_of_getElem? (i := 2) rfl) rfl | exact kd _ (Array.mem_of_getElem? (i := 3) rfl) rfl
        have t79 : ρ (.tmp 79) = .pointer (some ⟨gy, 10, none⟩) := (ks 19 79 (by decide) rfl).trans d19
        have hg := blk_later hY9.out hC
        have c10 := blk_cell hg 10
        simp at c10
        simp [execOp, go_sem, kc, t79, c10]
        exact ⟨hC, Below.refl _ _, rfl⟩
      · intro v W ρ y hC kc kf ks ki ky ku kd
        have dg : v 18 = .bool true := by first | exact kd _ (Array.mem_of_getElem? (i := 0) rfl) rfl | exact kd _ (Array.mem_of_getElem? (i := 1) rfl) rfl | exact kd _ (Array.mem_of_getElem? (i := 2) rfl) rfl | exact kd _ (Array.mem_of_getElem? (i := 3) rfl) rfl
        have hy := ky 18 78 true (by decide) rfl dg
        rw [if_pos (by simp [Region.wanted, hy])]
        have d20 : v 20 = .int .i64 0 := by first | exact kd _ (Array.mem_of_getElem? (i := 0) rfl) rfl | exact kd _ (Array.mem_of_getElem? (i := 1) rfl) rfl | exact kd _ (Array.mem_of_getElem? (i := 2) rfl) rfl | exact kd _ (Array.mem_of_getElem? (i := 3) rfl) rfl
        have t80 : ρ (.tmp 80) = .int .i64 0 := (ks 20 80 (by decide) rfl).trans d20
        simp [execOp, go_sem, kc, t80]
        exact ⟨hC, Below.refl _ _, rfl⟩
      · refine stepW_of_u ⟨rfl, fun v W ρ hC kc kf ks ki kd => ?_⟩
        have d18 : v 18 = .bool true := by first | exact kd _ (Array.mem_of_getElem? (i := 0) rfl) rfl | exact kd _ (Array.mem_of_getElem? (i := 1) rfl) rfl | exact kd _ (Array.mem_of_getElem? (i := 2) rfl) rfl | exact kd _ (Array.mem_of_getElem? (i := 3) rfl) rfl
        have t78 : ρ (.tmp 78) = .bool true := (ks 18 78 (by decide) rfl).trans d18
        have d21 : v 21 = .bool true := by first | exact kd _ (Array.mem_of_getElem? (i := 0) rfl) rfl | exact kd _ (Array.mem_of_getElem? (i := 1) rfl) rfl | exact kd _ (Array.mem_of_getElem? (i := 2) rfl) rfl | exact kd _ (Array.mem_of_getElem? (i := 3) rfl) rfl
        have t81 : ρ (.tmp 81) = .bool true := (ks 21 81 (by decide) rfl).trans d21
        simp [execOp, go_sem, kc, t78, t81]
        exact ⟨hC, Below.refl _ _, rfl⟩
      · refine stepW_of_u ⟨rfl, fun v W ρ hC kc kf ks ki kd => ?_⟩
        have d22 : v 22 = .bool true := by first | exact kd _ (Array.mem_of_getElem? (i := 0) rfl) rfl | exact kd _ (Array.mem_of_getElem? (i := 1) rfl) rfl | exact kd _ (Array.mem_of_getElem? (i := 2) rfl) rfl | exact kd _ (Array.mem_of_getElem? (i := 3) rfl) rfl
        have t82 : ρ (.tmp 82) = .bool true := (ks 22 82 (by decide) rfl).trans d22
        simp [execOp, go_sem, kc, t82]
        exact ⟨hC, Below.refl _ _, rfl⟩
      · intro v W ρ y hC kc kf ks ki ky ku kd
        have dg : v 23 = .bool true := by first | exact kd _ (Array.mem_of_getElem? (i := 0) rfl) rfl | exact kd _ (Array.mem_of_getElem? (i := 1) rfl) rfl | exact kd _ (Array.mem_of_getElem? (i := 2) rfl) rfl | exact kd _ (Array.mem_of_getElem? (i := 3) rfl) rfl
        have hy := ky 23 83 true (by decide) rfl dg
        rw [if_pos (by simp [Region.wanted, hy])]
        have t9 : ρ (.tmp 9) = .pointer (some ⟨gy, 0, none⟩) := ki 9 (by decide)
        simp [execOp, go_sem, kc, t9]
        exact ⟨hC, Below.refl _ _, rfl⟩
      · intro v W ρ y hC kc kf ks ki ky ku kd
        have dg : v 23 = .bool true := by first | exact kd _ (Array.mem_of_getElem? (i := 0) rfl) rfl | exact kd _ (Array.mem_of_getElem? (i := 1) rfl) rfl | exact kd _ (Array.mem_of_getElem? (i := 2) rfl) rfl | exact kd _ (Array.mem_of_getElem? (i := 3) rfl) rfl
        have hy := ky 23 83 true (by decide) rfl dg
        rw [if_pos (by simp [Region.wanted, hy])]
        have d24 : v 24 = .pointer (some ⟨gy, 0, none⟩) := by first | exact kd _ (Array.mem_of_getElem? (i := 0) rfl) rfl | exact kd _ (Array.mem_of_getElem? (i := 1) rfl) rfl | exact kd _ (Array.mem_of_getElem? (i := 2) rfl) rfl | exact kd _ (Array.mem_of_getElem? (i := 3) rfl) rfl
        have t84 : ρ (.tmp 84) = .pointer (some ⟨gy, 0, none⟩) := (ks 24 84 (by decide) rfl).trans d24
        have hg := blk_later hY9.out hC
        have c0 := blk_cell hg 0
        have c1 := blk_cell hg 1
        have c2 := blk_cell hg 2
        have c3 := blk_cell hg 3
        have c4 := blk_cell hg 4
        have c5 := blk_cell hg 5
        have c6 := blk_cell hg 6
        have c7 := blk_cell hg 7
        have c8 := blk_cell hg 8
        have c9 := blk_cell hg 9
        have c10 := blk_cell hg 10
        simp at c0 c1 c2 c3 c4 c5 c6 c7 c8 c9 c10
        simp [execOp, go_sem, kc, t84, c0, c1, c2, c3, c4, c5, c6, c7, c8, c9, c10]
        exact ⟨hC, Below.refl _ _, rfl⟩
      · intro v W ρ y hC kc kf ks ki ky ku kd
        have dg : v 23 = .bool true := by first | exact kd _ (Array.mem_of_getElem? (i := 0) rfl) rfl | exact kd _ (Array.mem_of_getElem? (i := 1) rfl) rfl | exact kd _ (Array.mem_of_getElem? (i := 2) rfl) rfl | exact kd _ (Array.mem_of_getElem? (i := 3) rfl) rfl
        have hy := ky 23 83 true (by decide) rfl dg
        rw [if_pos (by simp [Region.wanted, hy])]
        have d25 : v 25 = .agg #[.int .i64 Y.src, .int .i64 Y.dst, .int .i64 Y.proto, .int .i64 Y.a, .int .i64 Y.b, .int .i64 Y.kind, .int .i64 Y.flags, .int .i64 Y.seq, .int .i64 Y.ack, .string Y.body] := by first | exact kd _ (Array.mem_of_getElem? (i := 0) rfl) rfl | exact kd _ (Array.mem_of_getElem? (i := 1) rfl) rfl | exact kd _ (Array.mem_of_getElem? (i := 2) rfl) rfl | exact kd _ (Array.mem_of_getElem? (i := 3) rfl) rfl
        have t85 : ρ (.tmp 85) = .agg #[.int .i64 Y.src, .int .i64 Y.dst, .int .i64 Y.proto, .int .i64 Y.a, .int .i64 Y.b, .int .i64 Y.kind, .int .i64 Y.flags, .int .i64 Y.seq, .int .i64 Y.ack, .string Y.body] := (ks 25 85 (by decide) rfl).trans d25
        simp [execOp, go_sem, t85, kf]
        exact Calls.mono (HTy.out W) (fun e x h => ⟨_, h.1, hC.trans (h.2.mono hC.size), h.2, rfl⟩)
      · intro v W ρ y hC kc kf ks ki ky ku kd
        have dg : v 23 = .bool true := by first | exact kd _ (Array.mem_of_getElem? (i := 0) rfl) rfl | exact kd _ (Array.mem_of_getElem? (i := 1) rfl) rfl | exact kd _ (Array.mem_of_getElem? (i := 2) rfl) rfl | exact kd _ (Array.mem_of_getElem? (i := 3) rfl) rfl
        have hy := ky 23 83 true (by decide) rfl dg
        rw [if_pos (by simp [Region.wanted, hy])]
        have t5 : ρ (.tmp 5) = .pointer (some ⟨gp, 0, none⟩) := ki 5 (by decide)
        have hg := blk_later hP9.out hC
        have c0 := blk_cell hg 0
        have c1 := blk_cell hg 1
        have c2 := blk_cell hg 2
        have c3 := blk_cell hg 3
        have c4 := blk_cell hg 4
        have c5 := blk_cell hg 5
        have c6 := blk_cell hg 6
        have c7 := blk_cell hg 7
        have c8 := blk_cell hg 8
        have c9 := blk_cell hg 9
        simp at c0 c1 c2 c3 c4 c5 c6 c7 c8 c9
        simp [execOp, go_sem, kc, t5, c0, c1, c2, c3, c4, c5, c6, c7, c8, c9]
        exact ⟨hC, Below.refl _ _, rfl⟩
      · intro v W ρ y hC kc kf ks ki ky ku kd
        have dg : v 23 = .bool true := by first | exact kd _ (Array.mem_of_getElem? (i := 0) rfl) rfl | exact kd _ (Array.mem_of_getElem? (i := 1) rfl) rfl | exact kd _ (Array.mem_of_getElem? (i := 2) rfl) rfl | exact kd _ (Array.mem_of_getElem? (i := 3) rfl) rfl
        have hy := ky 23 83 true (by decide) rfl dg
        rw [if_pos (by simp [Region.wanted, hy])]
        have d27 : v 27 = .agg #[.int .i64 p.src, .int .i64 p.dst, .int .i64 p.proto, .int .i64 p.a, .int .i64 p.b, .int .i64 p.kind, .int .i64 p.flags, .int .i64 p.seq, .int .i64 p.ack, .string p.body] := by first | exact kd _ (Array.mem_of_getElem? (i := 0) rfl) rfl | exact kd _ (Array.mem_of_getElem? (i := 1) rfl) rfl | exact kd _ (Array.mem_of_getElem? (i := 2) rfl) rfl | exact kd _ (Array.mem_of_getElem? (i := 3) rfl) rfl
        have t87 : ρ (.tmp 87) = .agg #[.int .i64 p.src, .int .i64 p.dst, .int .i64 p.proto, .int .i64 p.a, .int .i64 p.b, .int .i64 p.kind, .int .i64 p.flags, .int .i64 p.seq, .int .i64 p.ack, .string p.body] := (ks 27 87 (by decide) rfl).trans d27
        simp [execOp, go_sem, t87, kf]
        exact Calls.mono (HTp.out W) (fun e x h => ⟨_, h.1, hC.trans (h.2.mono hC.size), h.2, rfl⟩)
      · intro v W ρ y hC kc kf ks ki ky ku kd
        have dg : v 23 = .bool true := by first | exact kd _ (Array.mem_of_getElem? (i := 0) rfl) rfl | exact kd _ (Array.mem_of_getElem? (i := 1) rfl) rfl | exact kd _ (Array.mem_of_getElem? (i := 2) rfl) rfl | exact kd _ (Array.mem_of_getElem? (i := 3) rfl) rfl
        have hy := ky 23 83 true (by decide) rfl dg
        rw [if_pos (by simp [Region.wanted, hy])]
        have d26 : v 26 = .agg #[.int .i64 TT.proto, .int .i64 TT.src, .int .i64 TT.sport, .int .i64 TT.dst, .int .i64 TT.dport, .int .i64 TT.kind] := by first | exact kd _ (Array.mem_of_getElem? (i := 0) rfl) rfl | exact kd _ (Array.mem_of_getElem? (i := 1) rfl) rfl | exact kd _ (Array.mem_of_getElem? (i := 2) rfl) rfl | exact kd _ (Array.mem_of_getElem? (i := 3) rfl) rfl
        have t86 : ρ (.tmp 86) = .agg #[.int .i64 TT.proto, .int .i64 TT.src, .int .i64 TT.sport, .int .i64 TT.dst, .int .i64 TT.dport, .int .i64 TT.kind] := (ks 26 86 (by decide) rfl).trans d26
        have d28 : v 28 = .agg #[.int .i64 TT.proto, .int .i64 TT.src, .int .i64 TT.sport, .int .i64 TT.dst, .int .i64 TT.dport, .int .i64 TT.kind] := by first | exact kd _ (Array.mem_of_getElem? (i := 0) rfl) rfl | exact kd _ (Array.mem_of_getElem? (i := 1) rfl) rfl | exact kd _ (Array.mem_of_getElem? (i := 2) rfl) rfl | exact kd _ (Array.mem_of_getElem? (i := 3) rfl) rfl
        have t88 : ρ (.tmp 88) = .agg #[.int .i64 TT.proto, .int .i64 TT.src, .int .i64 TT.sport, .int .i64 TT.dst, .int .i64 TT.dport, .int .i64 TT.kind] := (ks 28 88 (by decide) rfl).trans d28
        simp [execOp, go_sem, kc, t86, t88, hqT]
        exact ⟨hC, Below.refl _ _, rfl⟩
      · refine stepW_of_u ⟨rfl, fun v W ρ hC kc kf ks ki kd => ?_⟩
        have d23 : v 23 = .bool true := by first | exact kd _ (Array.mem_of_getElem? (i := 0) rfl) rfl | exact kd _ (Array.mem_of_getElem? (i := 1) rfl) rfl | exact kd _ (Array.mem_of_getElem? (i := 2) rfl) rfl | exact kd _ (Array.mem_of_getElem? (i := 3) rfl) rfl
        have t83 : ρ (.tmp 83) = .bool true := (ks 23 83 (by decide) rfl).trans d23
        have d29 : v 29 = .bool true := by first | exact kd _ (Array.mem_of_getElem? (i := 0) rfl) rfl | exact kd _ (Array.mem_of_getElem? (i := 1) rfl) rfl | exact kd _ (Array.mem_of_getElem? (i := 2) rfl) rfl | exact kd _ (Array.mem_of_getElem? (i := 3) rfl) rfl
        have t89 : ρ (.tmp 89) = .bool true := (ks 29 89 (by decide) rfl).trans d29
        simp [execOp, go_sem, kc, t83, t89]
        exact ⟨hC, Below.refl _ _, rfl⟩
      · refine stepW_of_u ⟨rfl, fun v W ρ hC kc kf ks ki kd => ?_⟩
        have d30 : v 30 = .bool true := by first | exact kd _ (Array.mem_of_getElem? (i := 0) rfl) rfl | exact kd _ (Array.mem_of_getElem? (i := 1) rfl) rfl | exact kd _ (Array.mem_of_getElem? (i := 2) rfl) rfl | exact kd _ (Array.mem_of_getElem? (i := 3) rfl) rfl
        have t90 : ρ (.tmp 90) = .bool true := (ks 30 90 (by decide) rfl).trans d30
        simp [execOp, go_sem, kc, t90]
        exact ⟨hC, Below.refl _ _, rfl⟩
      · intro v W ρ y hC kc kf ks ki ky ku kd
        have dg : v 31 = .bool true := by first | exact kd _ (Array.mem_of_getElem? (i := 0) rfl) rfl | exact kd _ (Array.mem_of_getElem? (i := 1) rfl) rfl | exact kd _ (Array.mem_of_getElem? (i := 2) rfl) rfl | exact kd _ (Array.mem_of_getElem? (i := 3) rfl) rfl
        have hy := ky 31 91 true (by decide) rfl dg
        rw [if_pos (by simp [Region.wanted, hy])]
        have t9 : ρ (.tmp 9) = .pointer (some ⟨gy, 0, none⟩) := ki 9 (by decide)
        simp [execOp, go_sem, kc, t9]
        exact ⟨hC, Below.refl _ _, rfl⟩
      · intro v W ρ y hC kc kf ks ki ky ku kd
        have dg : v 31 = .bool true := by first | exact kd _ (Array.mem_of_getElem? (i := 0) rfl) rfl | exact kd _ (Array.mem_of_getElem? (i := 1) rfl) rfl | exact kd _ (Array.mem_of_getElem? (i := 2) rfl) rfl | exact kd _ (Array.mem_of_getElem? (i := 3) rfl) rfl
        have hy := ky 31 91 true (by decide) rfl dg
        rw [if_pos (by simp [Region.wanted, hy])]
        have d32 : v 32 = .pointer (some ⟨gy, 0, none⟩) := by first | exact kd _ (Array.mem_of_getElem? (i := 0) rfl) rfl | exact kd _ (Array.mem_of_getElem? (i := 1) rfl) rfl | exact kd _ (Array.mem_of_getElem? (i := 2) rfl) rfl | exact kd _ (Array.mem_of_getElem? (i := 3) rfl) rfl
        have t92 : ρ (.tmp 92) = .pointer (some ⟨gy, 0, none⟩) := (ks 32 92 (by decide) rfl).trans d32
        simp [execOp, go_sem, kc, t92]
        exact ⟨hC, Below.refl _ _, rfl⟩
      · intro v W ρ y hC kc kf ks ki ky ku kd
        have dg : v 31 = .bool true := by first | exact kd _ (Array.mem_of_getElem? (i := 0) rfl) rfl | exact kd _ (Array.mem_of_getElem? (i := 1) rfl) rfl | exact kd _ (Array.mem_of_getElem? (i := 2) rfl) rfl | exact kd _ (Array.mem_of_getElem? (i := 3) rfl) rfl
        have hy := ky 31 91 true (by decide) rfl dg
        rw [if_pos (by simp [Region.wanted, hy])]
        have d33 : v 33 = .pointer (some ⟨gy, 9, none⟩) := by first | exact kd _ (Array.mem_of_getElem? (i := 0) rfl) rfl | exact kd _ (Array.mem_of_getElem? (i := 1) rfl) rfl | exact kd _ (Array.mem_of_getElem? (i := 2) rfl) rfl | exact kd _ (Array.mem_of_getElem? (i := 3) rfl) rfl
        have t93 : ρ (.tmp 93) = .pointer (some ⟨gy, 9, none⟩) := (ks 33 93 (by decide) rfl).trans d33
        have hg := blk_later hY9.out hC
        have c9 := blk_cell hg 9
        simp at c9
        simp [execOp, go_sem, kc, t93, c9]
        exact ⟨hC, Below.refl _ _, rfl⟩
      · intro v W ρ y hC kc kf ks ki ky ku kd
        have dg : v 31 = .bool true := by first | exact kd _ (Array.mem_of_getElem? (i := 0) rfl) rfl | exact kd _ (Array.mem_of_getElem? (i := 1) rfl) rfl | exact kd _ (Array.mem_of_getElem? (i := 2) rfl) rfl | exact kd _ (Array.mem_of_getElem? (i := 3) rfl) rfl
        have hy := ky 31 91 true (by decide) rfl dg
        rw [if_pos (by simp [Region.wanted, hy])]
        have d34 : v 34 = .string Y.body := by first | exact kd _ (Array.mem_of_getElem? (i := 0) rfl) rfl | exact kd _ (Array.mem_of_getElem? (i := 1) rfl) rfl | exact kd _ (Array.mem_of_getElem? (i := 2) rfl) rfl | exact kd _ (Array.mem_of_getElem? (i := 3) rfl) rfl
        have t94 : ρ (.tmp 94) = .string Y.body := (ks 34 94 (by decide) rfl).trans d34
        simp [execOp, go_sem, kc, t94, eYb]
        exact ⟨hC, Below.refl _ _, rfl⟩
      · refine stepW_of_u ⟨rfl, fun v W ρ hC kc kf ks ki kd => ?_⟩
        have d31 : v 31 = .bool true := by first | exact kd _ (Array.mem_of_getElem? (i := 0) rfl) rfl | exact kd _ (Array.mem_of_getElem? (i := 1) rfl) rfl | exact kd _ (Array.mem_of_getElem? (i := 2) rfl) rfl | exact kd _ (Array.mem_of_getElem? (i := 3) rfl) rfl
        have t91 : ρ (.tmp 91) = .bool true := (ks 31 91 (by decide) rfl).trans d31
        have d35 : v 35 = .bool true := by first | exact kd _ (Array.mem_of_getElem? (i := 0) rfl) rfl | exact kd _ (Array.mem_of_getElem? (i := 1) rfl) rfl | exact kd _ (Array.mem_of_getElem? (i := 2) rfl) rfl | exact kd _ (Array.mem_of_getElem? (i := 3) rfl) rfl
        have t95 : ρ (.tmp 95) = .bool true := (ks 35 95 (by decide) rfl).trans d35
        simp [execOp, go_sem, kc, t91, t95]
        exact ⟨hC, Below.refl _ _, rfl⟩
      · refine stepW_of_u ⟨rfl, fun v W ρ hC kc kf ks ki kd => ?_⟩
        have d36 : v 36 = .bool true := by first | exact kd _ (Array.mem_of_getElem? (i := 0) rfl) rfl | exact kd _ (Array.mem_of_getElem? (i := 1) rfl) rfl | exact kd _ (Array.mem_of_getElem? (i := 2) rfl) rfl | exact kd _ (Array.mem_of_getElem? (i := 3) rfl) rfl
        have t96 : ρ (.tmp 96) = .bool true := (ks 36 96 (by decide) rfl).trans d36
        simp [execOp, go_sem, kc, t96]
        exact ⟨hC, Below.refl _ _, rfl⟩
    intro v9 W9 hb9 hall
    have hv9 : v9 37 = .bool true := hall 37 (by decide)
    simp [upto, Act.put]
    rw [hv9]
    clear hall hv9
    have hLz := hidS (hL9.out.trans (hb9.mono hL9.out.size))
    clear hb9 hL9 hP9 hX9 hY9
    go_wp2_with fail
    go_ret
    exact ⟨rfl, hLz.out⟩
end Go.Proofs.YtokjhfgbnpdfnaaDoor
