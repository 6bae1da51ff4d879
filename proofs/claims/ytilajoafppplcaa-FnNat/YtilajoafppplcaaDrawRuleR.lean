/- Proved here: spec.DrawRuleRight draws some rule; all old memory stays (conditions: the bytes can be read; at most 2^20). -/
import Derived.Test.YtilajoafppplcaaAll6
import Derived.Test.YtilajoafppplcaaAll4
import Derived.Deep.Cut
namespace Go.Proofs.Ytilajoafppplcaa
open Go.ChangeShapes Go.WideShapes Go.ChangeAt Go.RowKit
set_option linter.unusedVariables false
set_option linter.unusedSimpArgs false
set_option maxRecDepth 100000

theorem src_more {B : Nat} {a : Option Addr} {len cap : Nat} {w : World} (h : Src B a len cap w) (o : Obj) : Src B a len cap (w.alloc o) := h.kept fun k hk => Below.heap_alloc _ _ _ (by have := h.lt; omega)
theorem pickN (cs : List Int) (W W' : World) (B : Nat) (j : Int) (h0 : 0 ≤ j) (h1 : j < cs.length) (hB : B ≠ W.heap.size) (hO : Only B (W.alloc (.cells (intCells cs) 2)) W') : ∃ z : Int, W'.cell? ⟨W.heap.size, j.toNat, none⟩ = some (.int .i64 z) := by
  have hh := (hO.block W.heap.size (by omega)).trans (heap_newG _ _)
  obtain ⟨k, rfl⟩ : ∃ k : Nat, j = k := ⟨j.toNat, by omega⟩
  rw [Int.toNat_natCast, blk_cell hh]
  exact ⟨_, intCells_get cs k (by omega)⟩
set_option maxHeartbeats 4000000 in
theorem drawRuleRight_any (a : Option Addr) (len cap : Nat) (w : World) (hR : RowAt w.heap.size a len w) (hl : len ≤ 1048576) :
    Calls Try.prog 24 #[.slice a len cap] w fun e w' => (∃ r : Rl, e = .returned (.agg #[.int .i64 r.kind, .int .i64 r.proto, .int .i64 r.net, .int .i64 r.bits, .int .i64 r.goal, .int .i64 r.low, .int .i64 r.high])) ∧ Below w.heap.size w w' := by
  have hL0 := hidS ((Below.refl w.heap.size w).alloc (Nat.le_refl _) (.cells #[.int .i64 0, .int .i64 0, .int .i64 0, .int .i64 0, .int .i64 0, .int .i64 0, .int .i64 0] 64))
  have hR0 := hidS (hR.later hL0.out)
  have hG0 := hidS (heap_newG w (.cells #[.int .i64 0, .int .i64 0, .int .i64 0, .int .i64 0, .int .i64 0, .int .i64 0, .int .i64 0] 64))
  clear hR
  go_enter Try.func24, Try.ntmps24
  go_wp2_with fail
  generalize w.alloc (.cells #[.int .i64 0, .int .i64 0, .int .i64 0, .int .i64 0, .int .i64 0, .int .i64 0, .int .i64 0] 64) = w1 at hL0 hR0 hG0 ⊢
  refine (source_any a len cap w1 hR0.out hl).mono ?_
  rintro _ w2 ⟨rfl, hS2, hb2⟩
  have hRB : w.heap.size < w1.heap.size := blk_lt hG0.out
  have hL2 := hidS (hL0.out.trans (hb2.mono hL0.out.size))
  have hG2 := hidS (blk_later hG0.out hb2)
  have HS2 := hidS hS2
  have lS := hS2.lt
  clear hb2 hL0 hR0 hG0 hS2
  generalize w1.heap.size = B at *
  go_wp2_with fail
  refine (l08Plain_any _).mono ?_
  rintro _ v3 ⟨rfl, hv3⟩
  have HS3 := hidS (src_more HS2.out (.cells (intCells (flatRule plainR)) 64))
  have hG3 := hidS (blk_alloc hG2.out (.cells (intCells (flatRule plainR)) 64))
  have hP3 := hidS (heap_newG w2 (.cells (intCells (flatRule plainR)) 64))
  have hL3 := hidS (hL2.out.alloc hL2.out.size (.cells (intCells (flatRule plainR)) 64))
  rw [← hv3] at HS3 hG3 hP3 hL3
  clear hv3 hL2 hG2 HS2
  generalize w2.heap.size = P at *
  go_wp2_with fail
  refine (srcN_any B a len cap 2 v3 HS3.out (by omega)).mono ?_
  rintro _ w4 ⟨c, rfl, hc1, hc2, hS4, hO4⟩
  have HS4 := hidS hS4
  have hL4 := hidS (hL3.out.grown hO4.grown hL3.out.size (fun k e => by cases e; omega))
  have hG4 := hidS ((hO4.block _ (by omega)).trans hG3.out)
  have hP4 := (hO4.block _ (by omega)).trans hP3.out
  clear hL3 hG3 hP3 HS3 hS4 hO4
  obtain ⟨k, rfl⟩ : ∃ k : Nat, c = k := ⟨c.toNat, by omega⟩
  have hlt' : (0 : Int) ≤ (k : Int) ∧ (k : Int) < 2 := by omega
  have hlt2 := hlt'.2
  have hkl : k < plainR.length := by show k < 2; omega
  obtain ⟨b2, o2, e2, hbl, c0, c1, c2, c3, c4, c5, c6⟩ := (RowB.read (rowB_new hP4)).rule hkl
  injection e2 with e2
  injection e2 with e3 e4 e5
  subst e3 e4
  simp only [Nat.zero_add] at c0 c1 c2 c3 c4 c5 c6
  generalize plainR.getD k zeroRl = r at *
  go_upto_region 3 with fail
  clear c0 c1 c2 c3 c4 c5 c6 hP4 hbl hc1 hc2 hlt' hlt2 hkl
  have lX := HS4.out.lt
  have HS5 := hidS (src_more HS4.out (.cells #[.int .i64 r.kind, .int .i64 r.proto, .int .i64 r.net, .int .i64 r.bits, .int .i64 r.goal, .int .i64 r.low, .int .i64 r.high] 64))
  have hG5 := hidS (blk_alloc hG4.out (.cells #[.int .i64 r.kind, .int .i64 r.proto, .int .i64 r.net, .int .i64 r.bits, .int .i64 r.goal, .int .i64 r.low, .int .i64 r.high] 64))
  have hX5 := hidS (heap_newG w4 (.cells #[.int .i64 r.kind, .int .i64 r.proto, .int .i64 r.net, .int .i64 r.bits, .int .i64 r.goal, .int .i64 r.low, .int .i64 r.high] 64))
  have hL5 := hidS (hL4.out.alloc hL4.out.size (.cells #[.int .i64 r.kind, .int .i64 r.proto, .int .i64 r.net, .int .i64 r.bits, .int .i64 r.goal, .int .i64 r.low, .int .i64 r.high] 64))
  clear HS4 hG4 hL4
  generalize w4.alloc (.cells #[.int .i64 r.kind, .int .i64 r.proto, .int .i64 r.net, .int .i64 r.bits, .int .i64 r.goal, .int .i64 r.low, .int .i64 r.high] 64) = w5 at *
  generalize w4.heap.size = X at *
  go_wp2_with fail
  refine (srcN_any B a len cap 6 w5 HS5.out (by omega)).mono ?_
  rintro _ w6 ⟨d, rfl, hd1, hd2, hS6, hO6⟩
  have HS6 := hidS hS6
  have hL6 := hidS (hL5.out.grown hO6.grown hL5.out.size (fun k e => by cases e; omega))
  have hG6 := hidS ((hO6.block _ (by omega)).trans hG5.out)
  have hX6 := hidS ((hO6.block _ (by omega)).trans hX5.out)
  clear hL5 hG5 hX5 HS5 hS6 hO6
  by_cases d0 : d = 0
  · subst d0
    clear hd1 hd2
    go_wp2_with fail
    refine (srcN_any B a len cap 6 _ (src_more HS6.out (.cells #[.int .i64 (-1), .int .i64 0, .int .i64 7, .int .i64 8, .int .i64 32, .int .i64 33] 2)) (by omega)).mono ?_
    rintro _ w7 ⟨e, rfl, he1, he2, hS7, hO7⟩
    have hG7 := hidS ((hO7.block _ (by omega)).trans (blk_alloc hG6.out (.cells #[.int .i64 (-1), .int .i64 0, .int .i64 7, .int .i64 8, .int .i64 32, .int .i64 33] 2)))
    have hX7 := hidS ((hO7.block _ (by omega)).trans (blk_alloc hX6.out (.cells #[.int .i64 (-1), .int .i64 0, .int .i64 7, .int .i64 8, .int .i64 32, .int .i64 33] 2)))
    have hL7 := hidS ((hL6.out.alloc hL6.out.size (.cells #[.int .i64 (-1), .int .i64 0, .int .i64 7, .int .i64 8, .int .i64 32, .int .i64 33] 2)).grown hO7.grown (hL6.out.alloc hL6.out.size (.cells #[.int .i64 (-1), .int .i64 0, .int .i64 7, .int .i64 8, .int .i64 32, .int .i64 33] 2)).size (fun k e => by cases e; omega))
    obtain ⟨z, hz⟩ := pickN [-1, 0, 7, 8, 32, 33] w6 w7 B e he1 (by simp; omega) (by have := HS6.out.lt; omega) hO7
    have he3 : 0 ≤ e ∧ e < 6 := by omega
    have he4 := he3.2
    have fX := blk_free hX7.out
    have kX := blk_cell hX7.out
    go_upto_region 14 with fail
    clear fX kX
    have hX8 := hidS (blk_set hX7.out 3 (.int .i64 z))
    have hG8 := hidS (blk_other (B := X) hG7.out (by omega) 3 (.int .i64 z))
    have hL8 := hidS (below_at (b := X) (k := 3) (v := .int .i64 z) hL7.out (by omega))
    have hX9 : Hid ((w7.setCell ⟨X, 3, none⟩ (.int .i64 z)).heap[X]? = some (.cells #[.int .i64 r.kind, .int .i64 r.proto, .int .i64 r.net, .int .i64 z, .int .i64 r.goal, .int .i64 r.low, .int .i64 r.high] 64)) := hX8
    clear hX8 hX7 hG7 hL7
    generalize w7.setCell ⟨X, 3, none⟩ (.int .i64 z) = w8 at *
    have kX := blk_cell hX9.out
    have kR := blk_cell hG8.out
    have fR := blk_free hG8.out
    go_wp2_with fail
    refine bodyPost_ret (v := .agg #[.int .i64 r.kind, .int .i64 r.proto, .int .i64 r.net, .int .i64 z, .int .i64 r.goal, .int .i64 r.low, .int .i64 r.high]) (by simp [results, Try.results24, go_sem, *]) rfl ⟨⟨(⟨r.kind, r.proto, r.net, z, r.goal, r.low, r.high⟩ : Rl), rfl⟩, ?_⟩
    iterate 7 (refine below_at ?_ (Nat.le_refl _))
    exact hL8.out
  have d0' : (d == 0) = false := beq_eq_false_iff_ne.2 d0
  by_cases d1 : d = 1
  · subst d1
    clear hd1 hd2
    go_wp2_with fail
    refine (srcWord_g B a len cap w6 HS6.out).mono ?_
    rintro _ w7 ⟨z, rfl, _, _, hS7, hg7⟩
    have hG7 := hidS ((hg7.block _ (blk_lt hG6.out) (fun e => by injection e with e; omega)).trans hG6.out)
    have hX7 := hidS ((hg7.block _ (blk_lt hX6.out) (fun e => by injection e with e; omega)).trans hX6.out)
    have hL7 := hidS (hL6.out.grown hg7 hL6.out.size (fun k e => by cases e; omega))
    have fX := blk_free hX7.out
    have kX := blk_cell hX7.out
    go_upto_region 14 with fail
    clear fX kX
    have hX8 := hidS (blk_set hX7.out 5 (.int .i64 z))
    have hG8 := hidS (blk_other (B := X) hG7.out (by omega) 5 (.int .i64 z))
    have hL8 := hidS (below_at (b := X) (k := 5) (v := .int .i64 z) hL7.out (by omega))
    have hX9 : Hid ((w7.setCell ⟨X, 5, none⟩ (.int .i64 z)).heap[X]? = some (.cells #[.int .i64 r.kind, .int .i64 r.proto, .int .i64 r.net, .int .i64 r.bits, .int .i64 r.goal, .int .i64 z, .int .i64 r.high] 64)) := hX8
    clear hX8 hX7 hG7 hL7
    generalize w7.setCell ⟨X, 5, none⟩ (.int .i64 z) = w8 at *
    have kX := blk_cell hX9.out
    have kR := blk_cell hG8.out
    have fR := blk_free hG8.out
    go_wp2_with fail
    refine bodyPost_ret (v := .agg #[.int .i64 r.kind, .int .i64 r.proto, .int .i64 r.net, .int .i64 r.bits, .int .i64 r.goal, .int .i64 z, .int .i64 r.high]) (by simp [results, Try.results24, go_sem, *]) rfl ⟨⟨(⟨r.kind, r.proto, r.net, r.bits, r.goal, z, r.high⟩ : Rl), rfl⟩, ?_⟩
    iterate 7 (refine below_at ?_ (Nat.le_refl _))
    exact hL8.out
  have d1' : (d == 1) = false := beq_eq_false_iff_ne.2 d1
  by_cases d2 : d = 2
  · subst d2
    clear hd1 hd2
    go_wp2_with fail
    refine (srcN_any B a len cap 4 w6 HS6.out (by omega)).mono ?_
    rintro _ w7 ⟨z, rfl, _, _, hS7, hO7⟩
    have hG7 := hidS ((hO7.block _ (by omega)).trans hG6.out)
    have hX7 := hidS ((hO7.block _ (by omega)).trans hX6.out)
    have hL7 := hidS (hL6.out.grown hO7.grown hL6.out.size (fun k e => by cases e; omega))
    have fX := blk_free hX7.out
    have kX := blk_cell hX7.out
    go_upto_region 14 with fail
    clear fX kX
    have hX8 := hidS (blk_set hX7.out 0 (.int .i64 z))
    have hG8 := hidS (blk_other (B := X) hG7.out (by omega) 0 (.int .i64 z))
    have hL8 := hidS (below_at (b := X) (k := 0) (v := .int .i64 z) hL7.out (by omega))
    have hX9 : Hid ((w7.setCell ⟨X, 0, none⟩ (.int .i64 z)).heap[X]? = some (.cells #[.int .i64 z, .int .i64 r.proto, .int .i64 r.net, .int .i64 r.bits, .int .i64 r.goal, .int .i64 r.low, .int .i64 r.high] 64)) := hX8
    clear hX8 hX7 hG7 hL7
    generalize w7.setCell ⟨X, 0, none⟩ (.int .i64 z) = w8 at *
    have kX := blk_cell hX9.out
    have kR := blk_cell hG8.out
    have fR := blk_free hG8.out
    go_wp2_with fail
    refine bodyPost_ret (v := .agg #[.int .i64 z, .int .i64 r.proto, .int .i64 r.net, .int .i64 r.bits, .int .i64 r.goal, .int .i64 r.low, .int .i64 r.high]) (by simp [results, Try.results24, go_sem, *]) rfl ⟨⟨(⟨z, r.proto, r.net, r.bits, r.goal, r.low, r.high⟩ : Rl), rfl⟩, ?_⟩
    iterate 7 (refine below_at ?_ (Nat.le_refl _))
    exact hL8.out
  have d2' : (d == 2) = false := beq_eq_false_iff_ne.2 d2
  by_cases d3 : d = 3
  · subst d3
    clear hd1 hd2
    go_wp2_with fail
    refine (srcAddr_any B a len cap w6 HS6.out).mono ?_
    rintro _ w7 ⟨z, rfl, _, _, hS7, hg7⟩
    have hG7 := hidS ((hg7.block _ (blk_lt hG6.out) (fun e => by injection e with e; omega)).trans hG6.out)
    have hX7 := hidS ((hg7.block _ (blk_lt hX6.out) (fun e => by injection e with e; omega)).trans hX6.out)
    have hL7 := hidS (hL6.out.grown hg7 hL6.out.size (fun k e => by cases e; omega))
    have fX := blk_free hX7.out
    have kX := blk_cell hX7.out
    go_upto_region 14 with fail
    clear fX kX
    have hX8 := hidS (blk_set hX7.out 2 (.int .i64 z))
    have hG8 := hidS (blk_other (B := X) hG7.out (by omega) 2 (.int .i64 z))
    have hL8 := hidS (below_at (b := X) (k := 2) (v := .int .i64 z) hL7.out (by omega))
    have hX9 : Hid ((w7.setCell ⟨X, 2, none⟩ (.int .i64 z)).heap[X]? = some (.cells #[.int .i64 r.kind, .int .i64 r.proto, .int .i64 z, .int .i64 r.bits, .int .i64 r.goal, .int .i64 r.low, .int .i64 r.high] 64)) := hX8
    clear hX8 hX7 hG7 hL7
    generalize w7.setCell ⟨X, 2, none⟩ (.int .i64 z) = w8 at *
    have kX := blk_cell hX9.out
    have kR := blk_cell hG8.out
    have fR := blk_free hG8.out
    go_wp2_with fail
    refine bodyPost_ret (v := .agg #[.int .i64 r.kind, .int .i64 r.proto, .int .i64 z, .int .i64 r.bits, .int .i64 r.goal, .int .i64 r.low, .int .i64 r.high]) (by simp [results, Try.results24, go_sem, *]) rfl ⟨⟨(⟨r.kind, r.proto, z, r.bits, r.goal, r.low, r.high⟩ : Rl), rfl⟩, ?_⟩
    iterate 7 (refine below_at ?_ (Nat.le_refl _))
    exact hL8.out
  have d3' : (d == 3) = false := beq_eq_false_iff_ne.2 d3
  by_cases d4 : d = 4
  · subst d4
    clear hd1 hd2
    go_wp2_with fail
    refine (srcN_any B a len cap 5 _ (src_more HS6.out (.cells #[.int .i64 0, .int .i64 1, .int .i64 6, .int .i64 17, .int .i64 2] 2)) (by omega)).mono ?_
    rintro _ w7 ⟨e, rfl, he1, he2, hS7, hO7⟩
    have hG7 := hidS ((hO7.block _ (by omega)).trans (blk_alloc hG6.out (.cells #[.int .i64 0, .int .i64 1, .int .i64 6, .int .i64 17, .int .i64 2] 2)))
    have hX7 := hidS ((hO7.block _ (by omega)).trans (blk_alloc hX6.out (.cells #[.int .i64 0, .int .i64 1, .int .i64 6, .int .i64 17, .int .i64 2] 2)))
    have hL7 := hidS ((hL6.out.alloc hL6.out.size (.cells #[.int .i64 0, .int .i64 1, .int .i64 6, .int .i64 17, .int .i64 2] 2)).grown hO7.grown (hL6.out.alloc hL6.out.size (.cells #[.int .i64 0, .int .i64 1, .int .i64 6, .int .i64 17, .int .i64 2] 2)).size (fun k e => by cases e; omega))
    obtain ⟨z, hz⟩ := pickN [0, 1, 6, 17, 2] w6 w7 B e he1 (by simp; omega) (by have := HS6.out.lt; omega) hO7
    have he3 : 0 ≤ e ∧ e < 5 := by omega
    have he4 := he3.2
    have fX := blk_free hX7.out
    have kX := blk_cell hX7.out
    go_upto_region 14 with fail
    clear fX kX
    have hX8 := hidS (blk_set hX7.out 1 (.int .i64 z))
    have hG8 := hidS (blk_other (B := X) hG7.out (by omega) 1 (.int .i64 z))
    have hL8 := hidS (below_at (b := X) (k := 1) (v := .int .i64 z) hL7.out (by omega))
    have hX9 : Hid ((w7.setCell ⟨X, 1, none⟩ (.int .i64 z)).heap[X]? = some (.cells #[.int .i64 r.kind, .int .i64 z, .int .i64 r.net, .int .i64 r.bits, .int .i64 r.goal, .int .i64 r.low, .int .i64 r.high] 64)) := hX8
    clear hX8 hX7 hG7 hL7
    generalize w7.setCell ⟨X, 1, none⟩ (.int .i64 z) = w8 at *
    have kX := blk_cell hX9.out
    have kR := blk_cell hG8.out
    have fR := blk_free hG8.out
    go_wp2_with fail
    refine bodyPost_ret (v := .agg #[.int .i64 r.kind, .int .i64 z, .int .i64 r.net, .int .i64 r.bits, .int .i64 r.goal, .int .i64 r.low, .int .i64 r.high]) (by simp [results, Try.results24, go_sem, *]) rfl ⟨⟨(⟨r.kind, z, r.net, r.bits, r.goal, r.low, r.high⟩ : Rl), rfl⟩, ?_⟩
    iterate 7 (refine below_at ?_ (Nat.le_refl _))
    exact hL8.out
  have d4' : (d == 4) = false := beq_eq_false_iff_ne.2 d4
  have kX := blk_cell hX6.out
  have kR := blk_cell hG6.out
  have fR := blk_free hG6.out
  go_wp2_with fail
  refine bodyPost_ret (v := .agg #[.int .i64 r.kind, .int .i64 r.proto, .int .i64 r.net, .int .i64 r.bits, .int .i64 r.goal, .int .i64 r.low, .int .i64 r.high]) (by simp [results, Try.results24, go_sem, *]) rfl ⟨⟨(⟨r.kind, r.proto, r.net, r.bits, r.goal, r.low, r.high⟩ : Rl), rfl⟩, ?_⟩
  iterate 7 (refine below_at ?_ (Nat.le_refl _))
  exact hL6.out
end Go.Proofs.Ytilajoafppplcaa
