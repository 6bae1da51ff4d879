/- Proved here: spec's source draws a tuple; the source's block alone turns of old memory (condition: a source). · Proved here: nothing of a program: tuples laid out as numbers, 6 each. -/
import Derived.Test.YtilajoafppplcaaAll9
import Derived.Test.YtilajoafppplcaaPkSrc
import Derived.Test.YtilajoafppplcaaAll11
import Derived.Test.YtilajoafppplcaaAll13
import Derived.Test.YtilajoafppplcaaAll6
import Derived.Test.YtilajoafppplcaaAll3
import Derived.Test.YtilajoafppplcaaAll5
section
namespace Go.Proofs.Ytilajoafppplcaa
open Go.ChangeShapes Go.WideShapes Go.ChangeAt Go.RowKit
set_option linter.unusedVariables false
set_option linter.unusedSimpArgs false
set_option maxRecDepth 100000

theorem pick3 (W W' : World) (B : Nat) (j : Int) (h0 : 0 ≤ j) (h1 : j ≤ 2) (hB : B ≠ W.heap.size) (hO : Only B (W.alloc (.cells #[.int .i64 8, .int .i64 0, .int .i64 3] 2)) W') : ∃ z : Int, W'.cell? ⟨W.heap.size, j.toNat, none⟩ = some (.int .i64 z) := by
  have hh := (hO.block W.heap.size (by omega)).trans (heap_newG _ _)
  obtain ⟨k, rfl⟩ : ∃ k : Nat, j = k := ⟨j.toNat, by omega⟩
  rw [Int.toNat_natCast, blk_cell hh]
  rcases (by omega : k = 0 ∨ k = 1 ∨ k = 2) with rfl | rfl | rfl
  all_goals exact ⟨_, rfl⟩
theorem pick4 (W W' : World) (B : Nat) (j : Int) (h0 : 0 ≤ j) (h1 : j ≤ 3) (hB : B ≠ W.heap.size) (hO : Only B (W.alloc (.cells #[.int .i64 1, .int .i64 6, .int .i64 17, .int .i64 0] 2)) W') : ∃ z : Int, W'.cell? ⟨W.heap.size, j.toNat, none⟩ = some (.int .i64 z) := by
  have hh := (hO.block W.heap.size (by omega)).trans (heap_newG _ _)
  obtain ⟨k, rfl⟩ : ∃ k : Nat, j = k := ⟨j.toNat, by omega⟩
  rw [Int.toNat_natCast, blk_cell hh]
  rcases (by omega : k = 0 ∨ k = 1 ∨ k = 2 ∨ k = 3) with rfl | rfl | rfl | rfl
  all_goals exact ⟨_, rfl⟩
set_option maxHeartbeats 4000000 in
theorem srcTuple_any (B : Nat) (a : Option Addr) (len cap : Nat) (w : World) (hS : Src B a len cap w) :
    Calls Try.prog 65 #[.pointer (some ⟨B, 0, none⟩)] w fun e w' => ∃ t : Tp, e = .returned (.agg #[.int .i64 t.proto, .int .i64 t.src, .int .i64 t.sport, .int .i64 t.dst, .int .i64 t.dport, .int .i64 t.kind]) ∧ Src B a len cap w' ∧ w.grownBy w' (some B) := by
  have hlt := hS.lt
  have hS1 := hidS (hS.kept (w' := w.alloc (.cells #[.int .i64 0, .int .i64 0, .int .i64 0, .int .i64 0, .int .i64 0, .int .i64 0] 52)) fun k hk => Below.heap_alloc _ _ _ (by omega))
  have hG1 := hidS (World.grownBy_alloc w (.cells #[.int .i64 0, .int .i64 0, .int .i64 0, .int .i64 0, .int .i64 0, .int .i64 0] 52) (some B))
  have hR1 := hidS (heap_newG w (.cells #[.int .i64 0, .int .i64 0, .int .i64 0, .int .i64 0, .int .i64 0, .int .i64 0] 52))
  clear hS
  go_enter Try.func65, Try.ntmps65
  go_wp2_with fail
  generalize w.alloc (.cells #[.int .i64 0, .int .i64 0, .int .i64 0, .int .i64 0, .int .i64 0, .int .i64 0] 52) = w1 at hS1 hG1 hR1 ⊢
  refine (srcPacket_any B a len cap w1 hS1.out).mono ?_
  rintro _ W1 ⟨p, rfl, hp, hSW, hGW⟩
  have HQ := hidS (fun W => specTOf_any p W (by unfold maxLen; omega))
  generalize ofAns p = t at HQ
  go_wp2_with fail
  refine (HQ.out W1).mono ?_
  rintro _ W2 ⟨rfl, hb2⟩
  have HP : Hid (TpSt B a len cap w W2.heap.size t (W2.alloc (.cells #[.int .i64 t.proto, .int .i64 t.src, .int .i64 t.sport, .int .i64 t.dst, .int .i64 t.dport, .int .i64 t.kind] 52))) := by
    have l1 : w.heap.size < W1.heap.size := Nat.lt_of_lt_of_le (blk_lt hR1.out) hGW.size
    have hlw : w.heap.size < W2.heap.size := Nat.lt_of_lt_of_le l1 hb2.size
    have hr := (hGW.block _ (blk_lt hR1.out) (fun e => by injection e with e; omega)).trans hR1.out
    have hS2 := src_below hSW hb2
    exact ⟨hS2.kept fun k hk => Below.heap_alloc _ _ _ (by have := hS2.lt; omega), grown_trans (grown_trans (grown_trans hG1.out hGW) (grown_ofBelow hb2)) (World.grownBy_alloc _ _ _), blk_alloc ((hb2.block _ l1).trans hr) _, heap_newG _ _, hlw, hlt⟩
  clear hSW hGW hS1 hG1 hR1 hb2 HQ hp
  go_upto_region 2 with fail
  generalize hgg : W2.heap.size = g at *
  generalize W2.alloc (.cells #[.int .i64 t.proto, .int .i64 t.src, .int .i64 t.sport, .int .i64 t.dst, .int .i64 t.dport, .int .i64 t.kind] 52) = W3 at HP ⊢
  clear hgg
  go_wp2_with fail
  refine (srcOne_any B a len cap 12 _ HP.out.src (by omega)).mono ?_
  rintro _ W4 ⟨c, rfl, hS, hO⟩
  have HP1 := hidS (HP.out.only hS hO)
  clear hS hO HP
  cases c
  · have hl := HP1.out.loc
    have x0 := blk_cell hl 0
    have x1 := blk_cell hl 1
    have x2 := blk_cell hl 2
    have x3 := blk_cell hl 3
    have x4 := blk_cell hl 4
    have x5 := blk_cell hl 5
    simp at x0 x1 x2 x3 x4 x5
    have kR := blk_cell HP1.out.res
    have fR := blk_free HP1.out.res
    have hgr := hidS HP1.out.grown
    have hsr := hidS HP1.out.src
    have hlt9 := HP1.out.lt
    clear hl HP1
    go_wp2_with fail
    refine bodyPost_ret (v := .agg #[.int .i64 t.proto, .int .i64 t.src, .int .i64 t.sport, .int .i64 t.dst, .int .i64 t.dport, .int .i64 t.kind]) (by simp [results, Try.results65, go_sem, *]) rfl ⟨t, rfl, ?_, ?_⟩
    · refine hsr.out.kept fun k hk => ?_
      iterate 6 (rw [Below.heap_setCell _ _ _ _ (show k ≠ _ by simp; omega)])
    · iterate 6 (refine grown_set _ _ ?_)
      exact hgr.out
  go_wp2_with fail
  refine (srcN_any B a len cap 3 _ HP1.out.src (by omega)).mono ?_
  rintro _ W5 ⟨r, rfl, hr1, hr2, hS, hO⟩
  have HP2 := hidS (HP1.out.only hS hO)
  have hr3 : r ≤ 2 := by omega
  clear hS hO HP1 hr2
  rcases (by omega : r = 0 ∨ r = 1 ∨ r = 2) with rfl | rfl | rfl
  · have hA := hidS (HP2.out.alloc (.cells #[.int .i64 8, .int .i64 0, .int .i64 3] 2))
    have hlg := HP2.out.lt
    have hog := HP2.out.old
    go_wp2_with fail
    refine (srcN_any B a len cap 3 _ hA.out.src (by omega)).mono ?_
    rintro _ W6 ⟨j, rfl, hj1, hj2, hS, hO⟩
    have hj3 : j ≤ 2 := by omega
    have HP3 := hidS (hA.out.only hS hO)
    obtain ⟨z, hz⟩ := pick3 W5 W6 B j hj1 hj3 (by have := HP2.out.src.lt; omega) hO
    have kl := blk_cell HP3.out.loc
    have fl := blk_free HP3.out.loc
    have HP4 := hidS (HP3.out.set_kind z)
    have hj4 : (0 : Int) ≤ j ∧ j < 3 := by omega
    clear hS hO hA HP2 HP3 hj2
    go_upto_region 9 with fail
    generalize W6.setCell ⟨g, 5, none⟩ (.int .i64 z) = W7 at HP4 ⊢
    generalize ({ t with kind := z } : Tp) = t2 at HP4
    clear kl fl hz
    have hl := HP4.out.loc
    have x0 := blk_cell hl 0
    have x1 := blk_cell hl 1
    have x2 := blk_cell hl 2
    have x3 := blk_cell hl 3
    have x4 := blk_cell hl 4
    have x5 := blk_cell hl 5
    simp at x0 x1 x2 x3 x4 x5
    have kR := blk_cell HP4.out.res
    have fR := blk_free HP4.out.res
    have hgr := hidS HP4.out.grown
    have hsr := hidS HP4.out.src
    have hlt9 := HP4.out.lt
    clear hl HP4
    go_wp2_with fail
    refine bodyPost_ret (v := .agg #[.int .i64 t2.proto, .int .i64 t2.src, .int .i64 t2.sport, .int .i64 t2.dst, .int .i64 t2.dport, .int .i64 t2.kind]) (by simp [results, Try.results65, go_sem, *]) rfl ⟨t2, rfl, ?_, ?_⟩
    · refine hsr.out.kept fun k hk => ?_
      iterate 6 (rw [Below.heap_setCell _ _ _ _ (show k ≠ _ by simp; omega)])
    · iterate 6 (refine grown_set _ _ ?_)
      exact hgr.out
  · have hlg := HP2.out.lt
    have hog := HP2.out.old
    go_wp2_with fail
    refine (srcWord_g B a len cap _ HP2.out.src).mono ?_
    rintro _ W6 ⟨z, rfl, _, _, hS, hO⟩
    have HP3 := hidS (HP2.out.later hS hO)
    have kl := blk_cell HP3.out.loc
    have fl := blk_free HP3.out.loc
    have HP4 := hidS (HP3.out.set_dport z)
    clear hS hO HP2 HP3
    go_upto_region 9 with fail
    generalize W6.setCell ⟨g, 4, none⟩ (.int .i64 z) = W7 at HP4 ⊢
    generalize ({ t with dport := z } : Tp) = t2 at HP4
    clear kl fl
    have hl := HP4.out.loc
    have x0 := blk_cell hl 0
    have x1 := blk_cell hl 1
    have x2 := blk_cell hl 2
    have x3 := blk_cell hl 3
    have x4 := blk_cell hl 4
    have x5 := blk_cell hl 5
    simp at x0 x1 x2 x3 x4 x5
    have kR := blk_cell HP4.out.res
    have fR := blk_free HP4.out.res
    have hgr := hidS HP4.out.grown
    have hsr := hidS HP4.out.src
    have hlt9 := HP4.out.lt
    clear hl HP4
    go_wp2_with fail
    refine bodyPost_ret (v := .agg #[.int .i64 t2.proto, .int .i64 t2.src, .int .i64 t2.sport, .int .i64 t2.dst, .int .i64 t2.dport, .int .i64 t2.kind]) (by simp [results, Try.results65, go_sem, *]) rfl ⟨t2, rfl, ?_, ?_⟩
    · refine hsr.out.kept fun k hk => ?_
      iterate 6 (rw [Below.heap_setCell _ _ _ _ (show k ≠ _ by simp; omega)])
    · iterate 6 (refine grown_set _ _ ?_)
      exact hgr.out
  · have hA := hidS (HP2.out.alloc (.cells #[.int .i64 1, .int .i64 6, .int .i64 17, .int .i64 0] 2))
    have hlg := HP2.out.lt
    have hog := HP2.out.old
    go_wp2_with fail
    refine (srcN_any B a len cap 4 _ hA.out.src (by omega)).mono ?_
    rintro _ W6 ⟨j, rfl, hj1, hj2, hS, hO⟩
    have hj3 : j ≤ 3 := by omega
    have HP3 := hidS (hA.out.only hS hO)
    obtain ⟨z, hz⟩ := pick4 W5 W6 B j hj1 hj3 (by have := HP2.out.src.lt; omega) hO
    have kl := blk_cell HP3.out.loc
    have fl := blk_free HP3.out.loc
    have HP4 := hidS (HP3.out.set_proto z)
    have hj4 : (0 : Int) ≤ j ∧ j < 4 := by omega
    clear hS hO hA HP2 HP3 hj2
    go_upto_region 9 with fail
    generalize W6.setCell ⟨g, 0, none⟩ (.int .i64 z) = W7 at HP4 ⊢
    generalize ({ t with proto := z } : Tp) = t2 at HP4
    clear kl fl hz
    have hl := HP4.out.loc
    have x0 := blk_cell hl 0
    have x1 := blk_cell hl 1
    have x2 := blk_cell hl 2
    have x3 := blk_cell hl 3
    have x4 := blk_cell hl 4
    have x5 := blk_cell hl 5
    simp at x0 x1 x2 x3 x4 x5
    have kR := blk_cell HP4.out.res
    have fR := blk_free HP4.out.res
    have hgr := hidS HP4.out.grown
    have hsr := hidS HP4.out.src
    have hlt9 := HP4.out.lt
    clear hl HP4
    go_wp2_with fail
    refine bodyPost_ret (v := .agg #[.int .i64 t2.proto, .int .i64 t2.src, .int .i64 t2.sport, .int .i64 t2.dst, .int .i64 t2.dport, .int .i64 t2.kind]) (by simp [results, Try.results65, go_sem, *]) rfl ⟨t2, rfl, ?_, ?_⟩
    · refine hsr.out.kept fun k hk => ?_
      iterate 6 (rw [Below.heap_setCell _ _ _ _ (show k ≠ _ by simp; omega)])
    · iterate 6 (refine grown_set _ _ ?_)
      exact hgr.out
end Go.Proofs.Ytilajoafppplcaa
end

section
namespace Go.Proofs.Ytilajoafppplcaa
open Go.ChangeShapes Go.WideShapes Go.ChangeAt Go.RowKit
set_option linter.unusedVariables false

def flatTuple : List Tp → List Int
  | [] => []
  | s :: ss => s.proto :: s.src :: s.sport :: s.dst :: s.dport :: s.kind :: flatTuple ss
theorem flatTuple_len : ∀ ss : List Tp, (flatTuple ss).length = 6 * ss.length
  | [] => rfl
  | s :: ss => by simp only [flatTuple, List.length_cons, flatTuple_len ss]; omega
theorem flatTuple_get : ∀ (ss : List Tp) (i : Nat), (flatTuple ss).getD (6 * i) 0 = (ss.getD i zeroTp).proto ∧ (flatTuple ss).getD (6 * i + 1) 0 = (ss.getD i zeroTp).src ∧ (flatTuple ss).getD (6 * i + 2) 0 = (ss.getD i zeroTp).sport ∧ (flatTuple ss).getD (6 * i + 3) 0 = (ss.getD i zeroTp).dst ∧ (flatTuple ss).getD (6 * i + 4) 0 = (ss.getD i zeroTp).dport ∧ (flatTuple ss).getD (6 * i + 5) 0 = (ss.getD i zeroTp).kind
  | [], i => by simp [flatTuple, zeroTp]
  | s :: ss, 0 => by simp [flatTuple]
  | s :: ss, i + 1 => by
    have := flatTuple_get ss i
    have e0 : 6 * (i + 1) = 6 * i + 6 := by omega
    simp only [flatTuple, e0, List.getD_cons_succ, show ∀ x : Nat, 6 * i + 6 + x = 6 * i + x + 6 by omega]
    simpa [List.getD_cons_succ] using this
/-- one read out of a row -/
theorem RowZ.tuple {a : Option Addr} {ss : List Tp} {W : World} (h : RowZ a (flatTuple ss) W) {i : Nat} (hi : i < ss.length) : ∃ b o, a = some ⟨b, o, none⟩ ∧ b < W.heap.size ∧
    W.cell? ⟨b, o + i * 6, none⟩ = some (.int .i64 (ss.getD i zeroTp).proto) ∧ W.cell? ⟨b, o + i * 6 + 1, none⟩ = some (.int .i64 (ss.getD i zeroTp).src) ∧ W.cell? ⟨b, o + i * 6 + 2, none⟩ = some (.int .i64 (ss.getD i zeroTp).sport) ∧ W.cell? ⟨b, o + i * 6 + 3, none⟩ = some (.int .i64 (ss.getD i zeroTp).dst) ∧ W.cell? ⟨b, o + i * 6 + 4, none⟩ = some (.int .i64 (ss.getD i zeroTp).dport) ∧ W.cell? ⟨b, o + i * 6 + 5, none⟩ = some (.int .i64 (ss.getD i zeroTp).kind) := by
  have hl := flatTuple_len ss
  obtain ⟨g0, g1, g2, g3, g4, g5⟩ := flatTuple_get ss i
  obtain ⟨b, o, e, hb, c0⟩ := h (6 * i) (by omega)
  obtain ⟨b1, o1, e1, _, c1⟩ := h (6 * i + 1) (by omega)
  obtain ⟨b2, o2, e2, _, c2⟩ := h (6 * i + 2) (by omega)
  obtain ⟨b3, o3, e3, _, c3⟩ := h (6 * i + 3) (by omega)
  obtain ⟨b4, o4, e4, _, c4⟩ := h (6 * i + 4) (by omega)
  obtain ⟨b5, o5, e5, _, c5⟩ := h (6 * i + 5) (by omega)
  rw [e] at e1 e2 e3 e4 e5
  injection e1 with e1; injection e1 with q1 r1
  injection e2 with e2; injection e2 with q2 r2
  injection e3 with e3; injection e3 with q3 r3
  injection e4 with e4; injection e4 with q4 r4
  injection e5 with e5; injection e5 with q5 r5
  subst q1 r1 q2 r2 q3 r3 q4 r4 q5 r5
  rw [g0] at c0
  rw [g1] at c1
  rw [g2] at c2
  rw [g3] at c3
  rw [g4] at c4
  rw [g5] at c5
  have q : o + i * 6 = o + 6 * i := by omega
  refine ⟨b, o, e, hb, ?_⟩
  rw [q]
  exact ⟨c0, c1, c2, c3, c4, c5⟩
theorem made_tuples (n : Nat) : madeCells #[.int .i64 0, .int .i64 0, .int .i64 0, .int .i64 0, .int .i64 0, .int .i64 0] n = intCells (List.replicate n 0) := by
  apply Array.ext
  · simp [size_madeCells, intCells]
  · intro i h1 h2
    have h4 : i % 6 < 6 := Nat.mod_lt _ (by omega)
    simp only [madeCells, intCells, Array.getElem_map, Array.getElem_range, List.getElem_toArray, List.getElem_map, List.getElem_replicate]
    rcases (by omega : i % 6 = 0 ∨ i % 6 = 1 ∨ i % 6 = 2 ∨ i % 6 = 3 ∨ i % 6 = 4 ∨ i % 6 = 5) with e | e | e | e | e | e <;> simp [e]
theorem flatTuple_part (ss : List Tp) (k : Nat) (h : k < ss.length) : (((((((partZ (flatTuple ss) (6 * k)).set (6 * k) (ss.getD k zeroTp).proto).set (6 * k + 1) (ss.getD k zeroTp).src).set (6 * k + 2) (ss.getD k zeroTp).sport).set (6 * k + 3) (ss.getD k zeroTp).dst).set (6 * k + 4) (ss.getD k zeroTp).dport).set (6 * k + 5) (ss.getD k zeroTp).kind) = partZ (flatTuple ss) (6 * (k + 1)) := by
  have hl := flatTuple_len ss
  obtain ⟨g0, g1, g2, g3, g4, g5⟩ := flatTuple_get ss k
  rw [← g0, ← g1, ← g2, ← g3, ← g4, ← g5, partZ_step _ _ (by omega), partZ_step _ _ (by omega), partZ_step _ _ (by omega), partZ_step _ _ (by omega), partZ_step _ _ (by omega), partZ_step _ _ (by omega)]
  congr 1
end Go.Proofs.Ytilajoafppplcaa
end
