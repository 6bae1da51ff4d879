/- Proved here: spec's source draws a tuple; the source's block alone turns of old memory (condition: a source). -/
import Derived.Test.YtedknnkdnccfmaaGreatDoorAll4
import Derived.Test.YtedknnkdnccfmaaGreatDoorPkSrc
import Derived.Test.YtedknnkdnccfmaaGreatDoorAll15
import Derived.Test.YtedknnkdnccfmaaGreatDoorTupOfSpec
import Derived.Test.YtedknnkdnccfmaaGreatDoorAll0
namespace Go.Proofs.YtedknnkdnccfmaaGreatDoor
open Go.ChangeShapes Go.WideShapes Go.ChangeAt Go.RowKit
set_option linter.unusedVariables false
set_option linter.unusedSimpArgs false
set_option maxRecDepth 100000

theorem pick3 (W W' : World) (B : Nat) (j : Int) (h0 : 0 ≤ j) (h1 : j ≤ 2) (hB : B ≠ W.heap.size) (hO : Only B (W.alloc (.cells #[.int .i64 8, .int .i64 0, .int .i64 3] 2)) W') : ∃ z : Int, W'.cell? ⟨W.heap.size, j.toNat, none⟩ = some (.int .i64 z) := by
  have hh := (hO.block W.heap.size (by omega)).trans (heap_newG _ _)
  obtain ⟨k, rfl⟩ : ∃ k : Nat, j = k := ⟨j.toNat, by omega⟩
  rw [Int.toNat_natCast, blk_cell hh]
  rcases (by omega : k = 0 ∨ k = 1 ∨ k = 2) with rfl | rfl | rfl
  all_goals exact ⟨_, rfl⟩
theorem pick4 (W W' : World) (B : Nat) (j : Int) (h0 : 0 ≤ j) (h1 : j ≤ 3) (hB : B ≠ W.heap.size) (hO : Only B (W.alloc (.cells #[.int .i64 1, .int .i64 6, .int .i64 17, .int .i64 0] 2)) W') : ∃ z : Int, W'.cell? ⟨W.heap.size, j.toNat, none⟩ = some (.int .i64 z) := by
  have hh := (hO.block W.heap.size (by omega)).trans (heap_newG _ _)
  obtain ⟨k, rfl⟩ : ∃ k : Nat, j = k := ⟨j.toNat, by omega⟩
  rw [Int.toNat_natCast, blk_cell hh]
  rcases (by omega : k = 0 ∨ k = 1 ∨ k = 2 ∨ k = 3) with rfl | rfl | rfl | rfl
  all_goals exact ⟨_, rfl⟩
set_option maxHeartbeats 4000000 in
theorem srcTuple_any (B : Nat) (a : Option Addr) (len cap : Nat) (w : World) (hS : Src B a len cap w) :
    Calls Tryz.prog 67 #[.pointer (some ⟨B, 0, none⟩)] w fun e w' => ∃ t : Tp, e = .returned (.agg #[.int .i64 t.proto, .int .i64 t.src, .int .i64 t.sport, .int .i64 t.dst, .int .i64 t.dport, .int .i64 t.kind]) ∧ Src B a len cap w' ∧ w.grownBy w' (some B) := by
  have hlt := hS.lt
  have hS1 := hidS (hS.kept (w' := w.alloc (.cells #[.int .i64 0, .int .i64 0, .int .i64 0, .int .i64 0, .int .i64 0, .int .i64 0] 40)) fun k hk => Below.heap_alloc _ _ _ (by omega))
  have hG1 := hidS (World.grownBy_alloc w (.cells #[.int .i64 0, .int .i64 0, .int .i64 0, .int .i64 0, .int .i64 0, .int .i64 0] 40) (some B))
  have hR1 := hidS (heap_newG w (.cells #[.int .i64 0, .int .i64 0, .int .i64 0, .int .i64 0, .int .i64 0, .int .i64 0] 40))
  clear hS
  go_enter Tryz.func67, Tryz.ntmps67
  go_wp2_with fail
  generalize w.alloc (.cells #[.int .i64 0, .int .i64 0, .int .i64 0, .int .i64 0, .int .i64 0, .int .i64 0] 40) = w1 at hS1 hG1 hR1 ⊢
  refine (srcPacket_any B a len cap w1 hS1.out).mono ?_
  rintro _ W1 ⟨p, rfl, hp, hSW, hGW⟩
  have HQ := hidS (fun W => specTOf_any p W (by unfold maxLen; omega))
  generalize ofAns p = t at HQ
  go_wp2_with fail
  refine (HQ.out W1).mono ?_
  rintro _ W2 ⟨rfl, hb2⟩
  have HP : Hid (TpSt B a len cap w W2.heap.size t (W2.alloc (.cells #[.int .i64 t.proto, .int .i64 t.src, .int .i64 t.sport, .int .i64 t.dst, .int .i64 t.dport, .int .i64 t.kind] 40))) := by
    have l1 : w.heap.size < W1.heap.size := Nat.lt_of_lt_of_le (blk_lt hR1.out) hGW.size
    have hlw : w.heap.size < W2.heap.size := Nat.lt_of_lt_of_le l1 hb2.size
    have hr := (hGW.block _ (blk_lt hR1.out) (fun e => by injection e with e; omega)).trans hR1.out
    have hS2 := src_below hSW hb2
    exact ⟨hS2.kept fun k hk => Below.heap_alloc _ _ _ (by have := hS2.lt; omega), grown_trans (grown_trans (grown_trans hG1.out hGW) (grown_ofBelow hb2)) (World.grownBy_alloc _ _ _), blk_alloc ((hb2.block _ l1).trans hr) _, heap_newG _ _, hlw, hlt⟩
  clear hSW hGW hS1 hG1 hR1 hb2 HQ hp
  go_upto_region 2 with fail
  generalize hgg : W2.heap.size = g at *
  generalize W2.alloc (.cells #[.int .i64 t.proto, .int .i64 t.src, .int .i64 t.sport, .int .i64 t.dst, .int .i64 t.dport, .int .i64 t.kind] 40) = W3 at HP ⊢
  clear hgg
  go_wp2_with fail
  refine (srcOne_any B a len cap 12 _ HP.out.src (by omega)).mono ?_
  rintro _ W4 ⟨c, rfl, hS, hO⟩
  have HP1 := hidS (HP.out.only hS hO)
  clear hS hO HP
  cases c
  · have hl := HP1.out.loc
    have x0 := blk_cell hl 0
    have x1 := blk_cell hl 1
    have x2 := blk_cell hl 2
    have x3 := blk_cell hl 3
    have x4 := blk_cell hl 4
    have x5 := blk_cell hl 5
    simp at x0 x1 x2 x3 x4 x5
    have kR := blk_cell HP1.out.res
    have fR := blk_free HP1.out.res
    have hgr := hidS HP1.out.grown
    have hsr := hidS HP1.out.src
    have hlt9 := HP1.out.lt
    clear hl HP1
    go_wp2_with fail
    refine bodyPost_ret (v := .agg #[.int .i64 t.proto, .int .i64 t.src, .int .i64 t.sport, .int .i64 t.dst, .int .i64 t.dport, .int .i64 t.kind]) (by simp [results, Tryz.results67, go_sem, *]) rfl ⟨t, rfl, ?_, ?_⟩
    · refine hsr.out.kept fun k hk => ?_
      iterate 6 (rw [Below.heap_setCell _ _ _ _ (show k ≠ _ by simp; omega)])
    · iterate 6 (refine grown_set _ _ ?_)
      exact hgr.out
  go_wp2_with fail
  refine (srcN_any B a len cap 3 _ HP1.out.src (by omega)).mono ?_
  rintro _ W5 ⟨r, rfl, hr1, hr2, hS, hO⟩
  have HP2 := hidS (HP1.out.only hS hO)
  have hr3 : r ≤ 2 := by omega
  clear hS hO HP1 hr2
  rcases (by omega : r = 0 ∨ r = 1 ∨ r = 2) with rfl | rfl | rfl
  · have hA := hidS (HP2.out.alloc (.cells #[.int .i64 8, .int .i64 0, .int .i64 3] 2))
    have hlg := HP2.out.lt
    have hog := HP2.out.old
    go_wp2_with fail
    refine (srcN_any B a len cap 3 _ hA.out.src (by omega)).mono ?_
    rintro _ W6 ⟨j, rfl, hj1, hj2, hS, hO⟩
    have hj3 : j ≤ 2 := by omega
    have HP3 := hidS (hA.out.only hS hO)
    obtain ⟨z, hz⟩ := pick3 W5 W6 B j hj1 hj3 (by have := HP2.out.src.lt; omega) hO
    have kl := blk_cell HP3.out.loc
    have fl := blk_free HP3.out.loc
    have HP4 := hidS (HP3.out.set_kind z)
    have hj4 : (0 : Int) ≤ j ∧ j < 3 := by omega
    clear hS hO hA HP2 HP3 hj2
    go_upto_region 9 with fail
    generalize W6.setCell ⟨g, 5, none⟩ (.int .i64 z) = W7 at HP4 ⊢
    generalize ({ t with kind := z } : Tp) = t2 at HP4
    clear kl fl hz
    have hl := HP4.out.loc
    have x0 := blk_cell hl 0
    have x1 := blk_cell hl 1
    have x2 := blk_cell hl 2
    have x3 := blk_cell hl 3
    have x4 := blk_cell hl 4
    have x5 := blk_cell hl 5
    simp at x0 x1 x2 x3 x4 x5
    have kR := blk_cell HP4.out.res
    have fR := blk_free HP4.out.res
    have hgr := hidS HP4.out.grown
    have hsr := hidS HP4.out.src
    have hlt9 := HP4.out.lt
    clear hl HP4
    go_wp2_with fail
    refine bodyPost_ret (v := .agg #[.int .i64 t2.proto, .int .i64 t2.src, .int .i64 t2.sport, .int .i64 t2.dst, .int .i64 t2.dport, .int .i64 t2.kind]) (by simp [results, Tryz.results67, go_sem, *]) rfl ⟨t2, rfl, ?_, ?_⟩
    · refine hsr.out.kept fun k hk => ?_
      iterate 6 (rw [Below.heap_setCell _ _ _ _ (show k ≠ _ by simp; omega)])
    · iterate 6 (refine grown_set _ _ ?_)
      exact hgr.out
  · have hlg := HP2.out.lt
    have hog := HP2.out.old
    go_wp2_with fail
    refine (srcWord_g B a len cap _ HP2.out.src).mono ?_
    rintro _ W6 ⟨z, rfl, _, _, hS, hO⟩
    have HP3 := hidS (HP2.out.later hS hO)
    have kl := blk_cell HP3.out.loc
    have fl := blk_free HP3.out.loc
    have HP4 := hidS (HP3.out.set_dport z)
    clear hS hO HP2 HP3
    go_upto_region 9 with fail
    generalize W6.setCell ⟨g, 4, none⟩ (.int .i64 z) = W7 at HP4 ⊢
    generalize ({ t with dport := z } : Tp) = t2 at HP4
    clear kl fl
    have hl := HP4.out.loc
    have x0 := blk_cell hl 0
    have x1 := blk_cell hl 1
    have x2 := blk_cell hl 2
    have x3 := blk_cell hl 3
    have x4 := blk_cell hl 4
    have x5 := blk_cell hl 5
    simp at x0 x1 x2 x3 x4 x5
    have kR := blk_cell HP4.out.res
    have fR := blk_free HP4.out.res
    have hgr := hidS HP4.out.grown
    have hsr := hidS HP4.out.src
    have hlt9 := HP4.out.lt
    clear hl HP4
    go_wp2_with fail
    refine bodyPost_ret (v := .agg #[.int .i64 t2.proto, .int .i64 t2.src, .int .i64 t2.sport, .int .i64 t2.dst, .int .i64 t2.dport, .int .i64 t2.kind]) (by simp [results, Tryz.results67, go_sem, *]) rfl ⟨t2, rfl, ?_, ?_⟩
    · refine hsr.out.kept fun k hk => ?_
      iterate 6 (rw [Below.heap_setCell _ _ _ _ (show k ≠ _ by simp; omega)])
    · iterate 6 (refine grown_set _ _ ?_)
      exact hgr.out
  · have hA := hidS (HP2.out.alloc (.cells #[.int .i64 1, .int .i64 6, .int .i64 17, .int .i64 0] 2))
    have hlg := HP2.out.lt
    have hog := HP2.out.old
    go_wp2_with fail
    refine (srcN_any B a len cap 4 _ hA.out.src (by omega)).mono ?_
    rintro _ W6 ⟨j, rfl, hj1, hj2, hS, hO⟩
    have hj3 : j ≤ 3 := by omega
    have HP3 := hidS (hA.out.only hS hO)
    obtain ⟨z, hz⟩ := pick4 W5 W6 B j hj1 hj3 (by have := HP2.out.src.lt; omega) hO
    have kl := blk_cell HP3.out.loc
    have fl := blk_free HP3.out.loc
    have HP4 := hidS (HP3.out.set_proto z)
    have hj4 : (0 : Int) ≤ j ∧ j < 4 := by omega
    clear hS hO hA HP2 HP3 hj2
    go_upto_region 9 with fail
    generalize W6.setCell ⟨g, 0, none⟩ (.int .i64 z) = W7 at HP4 ⊢
    generalize ({ t with proto := z } : Tp) = t2 at HP4
    clear kl fl hz
    have hl := HP4.out.loc
    have x0 := blk_cell hl 0
    have x1 := blk_cell hl 1
    have x2 := blk_cell hl 2
    have x3 := blk_cell hl 3
    have x4 := blk_cell hl 4
    have x5 := blk_cell hl 5
    simp at x0 x1 x2 x3 x4 x5
    have kR := blk_cell HP4.out.res
    have fR := blk_free HP4.out.res
    have hgr := hidS HP4.out.grown
    have hsr := hidS HP4.out.src
    have hlt9 := HP4.out.lt
    clear hl HP4
    go_wp2_with fail
    refine bodyPost_ret (v := .agg #[.int .i64 t2.proto, .int .i64 t2.src, .int .i64 t2.sport, .int .i64 t2.dst, .int .i64 t2.dport, .int .i64 t2.kind]) (by simp [results, Tryz.results67, go_sem, *]) rfl ⟨t2, rfl, ?_, ?_⟩
    · refine hsr.out.kept fun k hk => ?_
      iterate 6 (rw [Below.heap_setCell _ _ _ _ (show k ≠ _ by simp; omega)])
    · iterate 6 (refine grown_set _ _ ?_)
      exact hgr.out
end Go.Proofs.YtedknnkdnccfmaaGreatDoor
