/- Proved here: spec's source draws a packet, now and then one that tells an error, of at most 101 bytes of body; the source's block alone turns of old memory (condition: a source). · Proved here: spec.l04Error answers whether a packet tells an error; all old memory stays (no conditions). -/
import Derived.Test.YtedknnkdnccfmaaGreatDoorPkSrc
import Derived.Test.YtedknnkdnccfmaaGreatDoorErrSpec
import Derived.Test.YtedknnkdnccfmaaGreatDoorTupMath
import Derived.Test.YtedknnkdnccfmaaGreatDoorAll1
section
namespace Go.Proofs.YtedknnkdnccfmaaGreatDoor
open Go.ChangeShapes Go.WideShapes Go.ChangeAt Go.RowKit
set_option linter.unusedVariables false
set_option linter.unusedSimpArgs false
set_option maxRecDepth 100000

theorem errP_body (p : Pk) (f : Int) : (errP p f).body.size ≤ 101 := by
  unfold errP
  split
  · rw [ByteArray.size_extract]; omega
  · show 0 ≤ 101; omega
theorem grown_ofBelow {w w' : World} {r : Option Nat} (h : Below w.heap.size w w') : w.grownBy w' r := ⟨h.os, h.tape, h.output, h.size, fun i hi _ => h.block i hi⟩
theorem src_below {B : Nat} {a : Option Addr} {len cap : Nat} {w w' : World} (h : Src B a len cap w) (hb : Below w.heap.size w w') : Src B a len cap w' := h.kept fun k hk => hb.block k (by have := h.lt; omega)
/-- what ErrorOf tells of p -/
def NewE (p : Pk) (new : Array Value) : Prop := ∃ f : Int, new = #[.int .i64 (errP p f).src, .int .i64 (errP p f).dst, .int .i64 (errP p f).proto, .int .i64 (errP p f).a, .int .i64 (errP p f).b, .int .i64 (errP p f).kind, .int .i64 (errP p f).flags, .int .i64 (errP p f).seq, .int .i64 (errP p f).ack, .string (errP p f).body, .int .i64 (errC p f)]
set_option maxHeartbeats 4000000 in
theorem srcSome_any (B : Nat) (a : Option Addr) (len cap : Nat) (w : World) (hS : Src B a len cap w) :
    Calls Tryz.prog 40 #[.pointer (some ⟨B, 0, none⟩)] w fun e w' => ∃ p : Pk, e = .returned (.agg #[.int .i64 p.src, .int .i64 p.dst, .int .i64 p.proto, .int .i64 p.a, .int .i64 p.b, .int .i64 p.kind, .int .i64 p.flags, .int .i64 p.seq, .int .i64 p.ack, .string p.body]) ∧ p.body.size ≤ 101 ∧ Src B a len cap w' ∧ w.grownBy w' (some B) := by
  have hlt := hS.lt
  have hS1 := hidS (hS.kept (w' := w.alloc (.cells #[.int .i64 0, .int .i64 0, .int .i64 0, .int .i64 0, .int .i64 0, .int .i64 0, .int .i64 0, .int .i64 0, .int .i64 0, .string ⟨#[]⟩] 24)) fun k hk => Below.heap_alloc _ _ _ (by omega))
  have hG1 := hidS (World.grownBy_alloc w (.cells #[.int .i64 0, .int .i64 0, .int .i64 0, .int .i64 0, .int .i64 0, .int .i64 0, .int .i64 0, .int .i64 0, .int .i64 0, .string ⟨#[]⟩] 24) (some B))
  have hR1 := hidS (heap_newG w (.cells #[.int .i64 0, .int .i64 0, .int .i64 0, .int .i64 0, .int .i64 0, .int .i64 0, .int .i64 0, .int .i64 0, .int .i64 0, .string ⟨#[]⟩] 24))
  clear hS
  go_enter Tryz.func40, Tryz.ntmps40
  go_wp2_with fail
  generalize w.alloc (.cells #[.int .i64 0, .int .i64 0, .int .i64 0, .int .i64 0, .int .i64 0, .int .i64 0, .int .i64 0, .int .i64 0, .int .i64 0, .string ⟨#[]⟩] 24) = w1 at hS1 hG1 hR1 ⊢
  refine (srcPacket_any B a len cap w1 hS1.out).mono ?_
  rintro _ W1 ⟨p, rfl, hp, hSW, hGW⟩
  have HP : Hid (PkSt B a len cap w W1.heap.size p (W1.alloc (.cells #[.int .i64 p.src, .int .i64 p.dst, .int .i64 p.proto, .int .i64 p.a, .int .i64 p.b, .int .i64 p.kind, .int .i64 p.flags, .int .i64 p.seq, .int .i64 p.ack, .string p.body] 24))) := by
    have hlw : w.heap.size < W1.heap.size := Nat.lt_of_lt_of_le (blk_lt hR1.out) hGW.size
    exact ⟨hSW.kept fun k hk => Below.heap_alloc _ _ _ (by have := hSW.lt; omega), grown_trans (grown_trans hG1.out hGW) (World.grownBy_alloc _ _ _), blk_alloc ((hGW.block _ (blk_lt hR1.out) (fun e => by injection e with e; omega)).trans hR1.out) _, heap_newG _ _, hlw, hlt, hp⟩
  clear hSW hGW hS1 hG1 hR1
  go_upto_region 2 with fail
  generalize hgg : W1.heap.size = g at *
  generalize W1.alloc (.cells #[.int .i64 p.src, .int .i64 p.dst, .int .i64 p.proto, .int .i64 p.a, .int .i64 p.b, .int .i64 p.kind, .int .i64 p.flags, .int .i64 p.seq, .int .i64 p.ack, .string p.body] 24) = W2 at HP ⊢
  go_wp2_with fail
  refine (srcOne_any B a len cap 4 _ HP.out.src (by omega)).mono ?_
  rintro _ W3 ⟨c, rfl, hS, hO⟩
  have HP1 := hidS (HP.out.only hS hO)
  clear hS hO HP hgg
  cases c
  · have hl := HP1.out.loc
    have x0 := blk_cell hl 0
    have x1 := blk_cell hl 1
    have x2 := blk_cell hl 2
    have x3 := blk_cell hl 3
    have x4 := blk_cell hl 4
    have x5 := blk_cell hl 5
    have x6 := blk_cell hl 6
    have x7 := blk_cell hl 7
    have x8 := blk_cell hl 8
    have x9 := blk_cell hl 9
    simp at x0 x1 x2 x3 x4 x5 x6 x7 x8 x9
    have kR := blk_cell HP1.out.res
    have fR := blk_free HP1.out.res
    have hgr := hidS HP1.out.grown
    have hsr := hidS HP1.out.src
    have hbd := hidS HP1.out.body
    have hlt9 := HP1.out.lt
    clear hl HP1
    go_wp2_with fail
    refine bodyPost_ret (v := .agg #[.int .i64 p.src, .int .i64 p.dst, .int .i64 p.proto, .int .i64 p.a, .int .i64 p.b, .int .i64 p.kind, .int .i64 p.flags, .int .i64 p.seq, .int .i64 p.ack, .string p.body]) (by simp [results, Tryz.results40, go_sem, *]) rfl ⟨p, rfl, hbd.out, ?_, ?_⟩
    · refine hsr.out.kept fun k hk => ?_
      iterate 10 (rw [Below.heap_setCell _ _ _ _ (show k ≠ _ by simp; omega)])
    · iterate 10 (refine grown_set _ _ ?_)
      exact hgr.out
  go_wp2_with fail
  refine grow_src B a len cap 5 _ [isP (.agg #[.int .i64 p.src, .int .i64 p.dst, .int .i64 p.proto, .int .i64 p.a, .int .i64 p.b, .int .i64 p.kind, .int .i64 p.flags, .int .i64 p.seq, .int .i64 p.ack, .string p.body]), isP (.pointer (some ⟨B, 0, none⟩)), numP (-1) 4294967296, (fun v _ => ∃ new, v = .agg new ∧ NewE p new), blkP B W3.heap.size #[.int .i64 0, .int .i64 0, .int .i64 0, .int .i64 0, .int .i64 0, .int .i64 0, .int .i64 0, .int .i64 0, .int .i64 0, .string ⟨#[]⟩, .int .i64 0] 29] 4 3 4 12 29 29 #[.int .i64 0, .int .i64 0, .int .i64 0, .int .i64 0, .int .i64 0, .int .i64 0, .int .i64 0, .int .i64 0, .int .i64 0, .string ⟨#[]⟩, .int .i64 0] (NewE p) HP1.out.src rfl rfl rfl (by kernel_rfl) (by kernel_rfl) (by kernel_rfl) rfl rfl rfl rfl (by decide) (by decide) rfl rfl (fun new h => ?size) ?lasts ?steps ?fin
  case size =>
    obtain ⟨f, rfl⟩ := h
    exact ⟨rfl, by simp [Value.oneCell'], by kernel_rfl⟩
  case lasts => exact ⟨isP_last _ _, isP_last _ _, numP_last _ _ _, (fun _ _ _ h _ => h), blkP_last _ _ _ _, trivial⟩
  case steps =>
    refine ⟨?_, ?_, ?_, ?_, ?_, trivial⟩
    · refine ⟨rfl, fun v W ρ hC kc kf ks ki kd => ?_⟩
      have t3 : ρ (.tmp 3) = .pointer (some ⟨g, 0, none⟩) := ki 3 (by decide)
      have hg := (HP1.out.later hC.1 hC.2).loc
      have c0 := blk_cell hg 0
      have c1 := blk_cell hg 1
      have c2 := blk_cell hg 2
      have c3 := blk_cell hg 3
      have c4 := blk_cell hg 4
      have c5 := blk_cell hg 5
      have c6 := blk_cell hg 6
      have c7 := blk_cell hg 7
      have c8 := blk_cell hg 8
      have c9 := blk_cell hg 9
      simp at c0 c1 c2 c3 c4 c5 c6 c7 c8 c9
      simp [execOp, go_sem, t3, c0, c1, c2, c3, c4, c5, c6, c7, c8, c9]
      exact ⟨hC, grown_refl _ _, rfl⟩
    · refine ⟨rfl, fun v W ρ hC kc kf ks ki kd => ?_⟩
      have t0 : ρ (.tmp 0) = .pointer (some ⟨B, 0, none⟩) := ki 0 (by decide)
      simp [execOp, go_sem, t0]
      exact ⟨hC, grown_refl _ _, rfl⟩
    · refine ⟨rfl, fun v W ρ hC kc kf ks ki kd => ?_⟩
      have d1 : v 1 = .pointer (some ⟨B, 0, none⟩) := kd _ (Array.mem_of_getElem? (i := 0) rfl) rfl
      have t10 : ρ (.tmp 10) = v 1 := ks 1 10 (by decide) rfl
      rw [d1] at t10
      simp [execOp, go_sem, t10, kf]
      exact Calls.mono (srcAddr_any B a len cap W hC.1) (fun e x h => by obtain ⟨r, rfl, h1, h2, h3, h4⟩ := h; exact ⟨_, rfl, ⟨h3, grown_trans hC.2 h4⟩, h4, r, rfl, h1, h2⟩)
    · refine ⟨rfl, fun v W ρ hC kc kf ks ki kd => ?_⟩
      have d0 : v 0 = .agg #[.int .i64 p.src, .int .i64 p.dst, .int .i64 p.proto, .int .i64 p.a, .int .i64 p.b, .int .i64 p.kind, .int .i64 p.flags, .int .i64 p.seq, .int .i64 p.ack, .string p.body] := kd _ (Array.mem_of_getElem? (i := 0) rfl) rfl
      have t9 : ρ (.tmp 9) = v 0 := ks 0 9 (by decide) rfl
      rw [d0] at t9
      obtain ⟨n, d2, nl, nh⟩ : ∃ n : Int, v 2 = .int .i64 n ∧ (-1 : Int) ≤ n ∧ n ≤ 4294967296 := kd _ (Array.mem_of_getElem? (i := 1) rfl) rfl
      have t11 : ρ (.tmp 11) = v 2 := ks 2 11 (by decide) rfl
      rw [d2] at t11
      simp [execOp, go_sem, t9, t11, kf]
      exact Calls.mono (specError_any p n W (by have := HP1.out.body; unfold maxLen; omega)) (fun e x h => by obtain ⟨rfl, hb⟩ := h; exact ⟨_, rfl, ⟨src_below hC.1 hb, grown_trans hC.2 (grown_ofBelow hb)⟩, grown_ofBelow hb, _, rfl, n, rfl⟩)
    · refine ⟨rfl, fun v W ρ hC kc kf ks ki kd => ?_⟩
      simp [execOp, go_sem]
      exact ⟨⟨hC.1.kept fun k hk => Below.heap_alloc _ _ _ (by have := hC.1.lt; omega), grown_trans hC.2 (World.grownBy_alloc _ _ _)⟩, World.grownBy_alloc _ _ _, W.heap.size, rfl, hC.2.size, (by have := hC.1.lt; omega), heap_newG _ _⟩
  case fin =>
    intro v W y new hSW hGW hv hy hN hW
    obtain ⟨f, rfl⟩ := hN
    simp [upto, Act.put]
    rw [hv]
    have HP2 := hidS (HP1.out.later hSW hGW)
    have hbe := errP_body p f
    have hgy : g ≠ y := by have := blk_lt HP1.out.loc; omega
    have hwy : w.heap.size ≠ y := by have := blk_lt HP1.out.res; omega
    have HY := hidS hW
    clear hSW hGW hv hy hW HP1
    generalize errP p f = E at *
    generalize errC p f = C at *
    have c10 := blk_cell HY.out 10
    simp at c10
    by_cases h0 : C = 0
    · have h0' : (C == 0) = true := beq_iff_eq.2 h0
      clear h0
      have x0 := blk_cell HY.out 0
      have x1 := blk_cell HY.out 1
      have x2 := blk_cell HY.out 2
      have x3 := blk_cell HY.out 3
      have x4 := blk_cell HY.out 4
      have x5 := blk_cell HY.out 5
      have x6 := blk_cell HY.out 6
      have x7 := blk_cell HY.out 7
      have x8 := blk_cell HY.out 8
      have x9 := blk_cell HY.out 9
      simp at x0 x1 x2 x3 x4 x5 x6 x7 x8 x9
      have kR := blk_cell HP2.out.res
      have fR := blk_free HP2.out.res
      have hgr := hidS HP2.out.grown
      have hsr := hidS HP2.out.src
      have hlt9 := HP2.out.lt
      have hbd := hidS hbe
      clear HP2 HY hbe
      go_wp2_with fail
      refine bodyPost_ret (v := .agg #[.int .i64 E.src, .int .i64 E.dst, .int .i64 E.proto, .int .i64 E.a, .int .i64 E.b, .int .i64 E.kind, .int .i64 E.flags, .int .i64 E.seq, .int .i64 E.ack, .string E.body]) (by simp [results, Tryz.results40, go_sem, *]) rfl ⟨E, rfl, hbd.out, ?_, ?_⟩
      · refine hsr.out.kept fun k hk => ?_
        iterate 10 (rw [Below.heap_setCell _ _ _ _ (show k ≠ _ by simp; omega)])
      · iterate 10 (refine grown_set _ _ ?_)
        exact hgr.out
    · have h0' : (C == 0) = false := beq_eq_false_iff_ne.2 h0
      clear h0 hbe HY
      have hl := HP2.out.loc
      have x0 := blk_cell hl 0
      have x1 := blk_cell hl 1
      have x2 := blk_cell hl 2
      have x3 := blk_cell hl 3
      have x4 := blk_cell hl 4
      have x5 := blk_cell hl 5
      have x6 := blk_cell hl 6
      have x7 := blk_cell hl 7
      have x8 := blk_cell hl 8
      have x9 := blk_cell hl 9
      simp at x0 x1 x2 x3 x4 x5 x6 x7 x8 x9
      have kR := blk_cell HP2.out.res
      have fR := blk_free HP2.out.res
      have hgr := hidS HP2.out.grown
      have hsr := hidS HP2.out.src
      have hbd := hidS HP2.out.body
      have hlt9 := HP2.out.lt
      clear hl HP2
      go_wp2_with fail
      refine bodyPost_ret (v := .agg #[.int .i64 p.src, .int .i64 p.dst, .int .i64 p.proto, .int .i64 p.a, .int .i64 p.b, .int .i64 p.kind, .int .i64 p.flags, .int .i64 p.seq, .int .i64 p.ack, .string p.body]) (by simp [results, Tryz.results40, go_sem, *]) rfl ⟨p, rfl, hbd.out, ?_, ?_⟩
      · refine hsr.out.kept fun k hk => ?_
        iterate 10 (rw [Below.heap_setCell _ _ _ _ (show k ≠ _ by simp; omega)])
      · iterate 10 (refine grown_set _ _ ?_)
        exact hgr.out
end Go.Proofs.YtedknnkdnccfmaaGreatDoor
end

section
namespace Go.Proofs.YtedknnkdnccfmaaGreatDoor
open Go.ChangeShapes Go.WideShapes Go.ChangeAt Go.RowKit
set_option linter.unusedVariables false

theorem l04Error_any (p : Pk) (w : World) :
    Calls Tryz.prog 79 #[.agg #[.int .i64 p.src, .int .i64 p.dst, .int .i64 p.proto, .int .i64 p.a, .int .i64 p.b, .int .i64 p.kind, .int .i64 p.flags, .int .i64 p.seq, .int .i64 p.ack, .string p.body]] w fun e w' => e = .returned (.bool (errorB p)) ∧ Below w.heap.size w w' := by
  have HB := fun o => hidS ((Below.refl w.heap.size w).alloc (Nat.le_refl _) o)
  unfold errorB
  cases h1 : (p.proto == 1)
  · go_enter Tryz.func79, Tryz.ntmps79
    go_wp2
    go_ret
    exact ⟨rfl, (HB _).out⟩
  · go_enter Tryz.func79, Tryz.ntmps79
    go_wp2
    go_ret
    exact ⟨rfl, (HB _).out⟩
end Go.Proofs.YtedknnkdnccfmaaGreatDoor
end
