/- Proved here: laws.FnExactRuleFor returns true at every argument, and each argument reads afterwards as before (no conditions). -/
import Derived.Test.YtfnpobhjkmkepaaOpenRules
import Derived.Test.YtfnpobhjkmkepaaOpenTuple
import Derived.Test.YtfnpobhjkmkepaaLawsRules
import Derived.Test.YtfnpobhjkmkepaaLawsTp
import Derived.Test.YtfnpobhjkmkepaaKindsR
import Derived.Test.YtfnpobhjkmkepaaGrowLast
import Derived.Test.YtfnpobhjkmkepaaGrowGk
import Derived.Test.YtfnpobhjkmkepaaGrowCases
import Derived.Test.YtfnpobhjkmkepaaRuleForS
import Derived.Test.YtfnpobhjkmkepaaRuleForI
import Derived.WalkKit
import Derived.WalkSpells
import Derived.ProofKit
import Derived.OpenShut
import Derived.ShutString
import Derived.Handy
import Derived.Below
namespace Go.Proofs.Ytfnpobhjkmkepaa
open Go.ChangeShapes Go.WideShapes Go.ChangeAt Go.RowKit
open Go.ChangeMaps (open_string shut_string)
set_option linter.unusedVariables false

set_option linter.unusedSimpArgs false
set_option maxHeartbeats 8000000 in
theorem ruleForLaw_all (a : Option Addr) (cap : Nat) (l : List Rl) (kind : Int) (t : Tp) (w : World) (hR : RowZ a (flatRule l) w) (hm : l.length ≤ maxLen) :
    Calls Try.prog 6 #[.slice a l.length cap, .int .i64 kind, .agg #[.int .i64 t.proto, .int .i64 t.src, .int .i64 t.sport, .int .i64 t.dst, .int .i64 t.dport, .int .i64 t.kind]] w fun e w' => e = .returned (.bool true) ∧ Below w.heap.size w w' := by
  have hm' : l.length ≤ 9223372036854775807 := hm
  have HR := hidS hR
  clear hR hm
  have HSZ := hidS (fun W => szRules_any a l.length cap 1048576 W hm' (by omega) (by omega))
  by_cases hbig : 1048576 < l.length
  · rw [if_pos (by omega)] at HSZ
    have hGT0 : Hid ((w.alloc (.cells #[.int .i64 t.proto, .int .i64 t.src, .int .i64 t.sport, .int .i64 t.dst, .int .i64 t.dport, .int .i64 t.kind] 37)).heap[w.heap.size]? = some (.cells #[.int .i64 t.proto, .int .i64 t.src, .int .i64 t.sport, .int .i64 t.dst, .int .i64 t.dport, .int .i64 t.kind] 37)) := by
      show _ = _
      have := heap_newG w (.cells #[.int .i64 t.proto, .int .i64 t.src, .int .i64 t.sport, .int .i64 t.dst, .int .i64 t.dport, .int .i64 t.kind] 37)
      simpa using this
    have hL0 := hidS ((Below.refl w.heap.size w).alloc (Nat.le_refl _) (.cells #[.int .i64 t.proto, .int .i64 t.src, .int .i64 t.sport, .int .i64 t.dst, .int .i64 t.dport, .int .i64 t.kind] 37))
    go_enter Try.func6, Try.ntmps6
    go_wp2_with fail
    refine (HSZ.out _).mono ?_
    rintro _ v9 ⟨rfl, hv9⟩
    rw [hv9]
    clear hv9 v9
    go_wp2_with fail
    go_ret
    exact ⟨rfl, hL0.out⟩
  rw [if_neg (by omega)] at HSZ
  have hlen : l.length ≤ 1048576 := by omega
  have hnn : ¬ (1048576 - (l.length : Int)) < 0 := by omega
  have HTO := hidS (fun W (h : Below w.heap.size w W) => toRules_any a cap l W (HR.out.later h) hlen)
  have HTT := hidS (fun W => toTuple_any t W)
  have HSP := hidS (fun b c W (h : RowZ (some ⟨b, 0, none⟩) (flatRule l) W) => specRuleFor_any (some ⟨b, 0, none⟩) c l kind t W h hlen)
  have HIM := hidS (fun b c W (h : RowZ (some ⟨b, 0, none⟩) (flatRule l) W) => implRuleFor_any (some ⟨b, 0, none⟩) c l kind t W h hlen)
  have HEX := hidS (fun b b' c c' W (h : RowZ (some ⟨b, 0, none⟩) (flatRule l) W) (h' : RowZ (some ⟨b', 0, none⟩) (flatRule l) W) => eqRules_any (some ⟨b, 0, none⟩) (some ⟨b', 0, none⟩) c c' l W h h' hlen)
  generalize ruleAns l kind t = q at HSP HIM
  have HEQ := hidS (fun W => eqRule_any q W)
  clear hbig hm'
  have hGT0 : Hid ((w.alloc (.cells #[.int .i64 t.proto, .int .i64 t.src, .int .i64 t.sport, .int .i64 t.dst, .int .i64 t.dport, .int .i64 t.kind] 37)).heap[w.heap.size]? = some (.cells #[.int .i64 t.proto, .int .i64 t.src, .int .i64 t.sport, .int .i64 t.dst, .int .i64 t.dport, .int .i64 t.kind] 37)) := by
    show _ = _
    have := heap_newG w (.cells #[.int .i64 t.proto, .int .i64 t.src, .int .i64 t.sport, .int .i64 t.dst, .int .i64 t.dport, .int .i64 t.kind] 37)
    simpa using this
  have hL0 := hidS ((Below.refl w.heap.size w).alloc (Nat.le_refl _) (.cells #[.int .i64 t.proto, .int .i64 t.src, .int .i64 t.sport, .int .i64 t.dst, .int .i64 t.dport, .int .i64 t.kind] 37))
  go_enter Try.func6, Try.ntmps6
  go_wp2_with fail
  refine (HSZ.out _).mono ?_
  rintro _ v9 ⟨rfl, hv9⟩
  rw [hv9]
  clear hv9 v9
  go_wp2_with fail
  generalize (w.alloc (.cells #[.int .i64 t.proto, .int .i64 t.src, .int .i64 t.sport, .int .i64 t.dst, .int .i64 t.dport, .int .i64 t.kind] 37)) = w0 at hGT0 hL0 ⊢
  refine grow_pair_store 7 _ [isP (.slice a l.length cap), rowK l.length (flatRule l), isP (.int .i64 kind), isP (.agg #[.int .i64 t.proto, .int .i64 t.src, .int .i64 t.sport, .int .i64 t.dst, .int .i64 t.dport, .int .i64 t.kind]), isP (.agg #[.int .i64 t.proto, .int .i64 t.src, .int .i64 t.sport, .int .i64 t.dst, .int .i64 t.dport, .int .i64 t.kind]), isP (.agg #[.int .i64 q.kind, .int .i64 q.proto, .int .i64 q.net, .int .i64 q.bits, .int .i64 q.goal, .int .i64 q.low, .int .i64 q.high]), mkB w0.heap.size #[.int .i64 0, .int .i64 0, .int .i64 0, .int .i64 0, .int .i64 0, .int .i64 0, .int .i64 0] 25] 5 6 (by decide) noR 5 8 21 25 25 #[.int .i64 0, .int .i64 0, .int .i64 0, .int .i64 0, .int .i64 0, .int .i64 0, .int .i64 0] 7 rfl rfl rfl (by kernel_rfl) (by kernel_rfl) (by kernel_rfl) ⟨(fun v W W' h _ => h), (rowK_last _ _), (fun v W W' h _ => h), (fun v W W' h _ => h), (fun v W W' h _ => h), (fun v W W' h _ => h), (mkB_last _ _ _), trivial⟩ noR_last (by decide) (by decide) (by decide) rfl rfl rfl rfl (fun v W h => h) (fun v W h => by have e : v = .agg #[.int .i64 q.kind, .int .i64 q.proto, .int .i64 q.net, .int .i64 q.bits, .int .i64 q.goal, .int .i64 q.low, .int .i64 q.high] := h; exact ⟨_, e, rfl, by simp [Value.oneCell']⟩) rfl (by kernel_rfl) ?stepsA ?finA
  case stepsA =>
    refine ⟨?_, ?_, ?_, ?_, ?_, ?_, ?_, trivial⟩
    · refine ⟨rfl, fun v W ρ hC kc kf ks ki kd => ?_⟩
      have t0 : ρ (.tmp 0) = .slice a l.length cap := ki 0 (by decide)
      simp [execOp, go_sem, kc, t0]
      simp only [RanS]
      first | exact ⟨hC, Below.refl _ _, rfl⟩ | exact ⟨hC, Below.refl _ _, rfl, by first | exact fun _ _ => trivial | exact fun h => absurd h (by decide), by first | exact fun _ _ => trivial | exact fun h => absurd h (by decide)⟩
    · refine ⟨rfl, fun v W ρ hC kc kf ks ki kd => ?_⟩
      have d0 : v 0 = .slice a l.length cap := by first | exact kd _ (mem0 rfl) rfl | exact kd _ (mem1 rfl) rfl | exact kd _ (mem2 rfl) rfl | exact kd _ (mem3 rfl) rfl | exact kd _ (mem4 rfl) rfl | exact kd _ (mem5 rfl) rfl
      have t16 : ρ (.tmp 16) = .slice a l.length cap := (ks 0 16 (by decide) rfl).trans d0
      simp [execOp, go_sem, kc, kf, t16]
      simp only [RanS]
      refine Calls.mono (HTO.out W (hL0.out.trans (hC.mono hL0.out.size))) (fun e x h => ?_)
      obtain ⟨b, rfl, _, hr, hb⟩ := h
      exact ⟨_, rfl, hC.trans (hb.mono hC.size), hb, ⟨b, rfl, (rowB_new hr).read⟩⟩
    · refine ⟨rfl, fun v W ρ hC kc kf ks ki kd => ?_⟩
      have t1 : ρ (.tmp 1) = .int .i64 kind := ki 1 (by decide)
      simp [execOp, go_sem, kc, t1]
      simp only [RanS]
      first | exact ⟨hC, Below.refl _ _, rfl⟩ | exact ⟨hC, Below.refl _ _, rfl, by first | exact fun _ _ => trivial | exact fun h => absurd h (by decide), by first | exact fun _ _ => trivial | exact fun h => absurd h (by decide)⟩
    · refine ⟨rfl, fun v W ρ hC kc kf ks ki kd => ?_⟩
      have t5 : ρ (.tmp 5) = .pointer (some ⟨w.heap.size, 0, none⟩) := ki 5 (by decide)
      have hg := blk_later hGT0.out hC
      have c0 := blk_cell hg 0
      have c1 := blk_cell hg 1
      have c2 := blk_cell hg 2
      have c3 := blk_cell hg 3
      have c4 := blk_cell hg 4
      have c5 := blk_cell hg 5
      simp at c0 c1 c2 c3 c4 c5
      simp [execOp, go_sem, kc, t5, c0, c1, c2, c3, c4, c5]
      simp only [RanS]
      first | exact ⟨hC, Below.refl _ _, rfl⟩ | exact ⟨hC, Below.refl _ _, rfl, by first | exact fun _ _ => trivial | exact fun h => absurd h (by decide), by first | exact fun _ _ => trivial | exact fun h => absurd h (by decide)⟩
    · refine ⟨rfl, fun v W ρ hC kc kf ks ki kd => ?_⟩
      have d3 : v 3 = .agg #[.int .i64 t.proto, .int .i64 t.src, .int .i64 t.sport, .int .i64 t.dst, .int .i64 t.dport, .int .i64 t.kind] := by first | exact kd _ (mem0 rfl) rfl | exact kd _ (mem1 rfl) rfl | exact kd _ (mem2 rfl) rfl | exact kd _ (mem3 rfl) rfl | exact kd _ (mem4 rfl) rfl | exact kd _ (mem5 rfl) rfl
      have t19 : ρ (.tmp 19) = .agg #[.int .i64 t.proto, .int .i64 t.src, .int .i64 t.sport, .int .i64 t.dst, .int .i64 t.dport, .int .i64 t.kind] := (ks 3 19 (by decide) rfl).trans d3
      simp [execOp, go_sem, kc, t19, kf]
      simp only [RanS]
      first | exact Calls.mono (HTT.out W) (fun e x h => ⟨_, h.1, hC.trans (h.2.mono hC.size), h.2, rfl⟩) | exact Calls.mono (HTT.out W) (fun e x h => ⟨_, h.1, hC.trans (h.2.mono hC.size), h.2, rfl, by first | exact fun _ _ => trivial | exact fun h => absurd h (by decide), by first | exact fun _ _ => trivial | exact fun h => absurd h (by decide)⟩)
    · refine ⟨rfl, fun v W ρ hC kc kf ks ki kd => ?_⟩
      obtain ⟨xb17, e17, hz17⟩ : (rowK l.length (flatRule l)) (v 1) W := by first | exact kd _ (mem0 rfl) rfl | exact kd _ (mem1 rfl) rfl | exact kd _ (mem2 rfl) rfl | exact kd _ (mem3 rfl) rfl | exact kd _ (mem4 rfl) rfl | exact kd _ (mem5 rfl) rfl
      have t17 : ρ (.tmp 17) = .slice (some ⟨xb17, 0, none⟩) l.length l.length := (ks 1 17 (by decide) rfl).trans e17
      have d2 : v 2 = .int .i64 kind := by first | exact kd _ (mem0 rfl) rfl | exact kd _ (mem1 rfl) rfl | exact kd _ (mem2 rfl) rfl | exact kd _ (mem3 rfl) rfl | exact kd _ (mem4 rfl) rfl | exact kd _ (mem5 rfl) rfl
      have t18 : ρ (.tmp 18) = .int .i64 kind := (ks 2 18 (by decide) rfl).trans d2
      have d4 : v 4 = .agg #[.int .i64 t.proto, .int .i64 t.src, .int .i64 t.sport, .int .i64 t.dst, .int .i64 t.dport, .int .i64 t.kind] := by first | exact kd _ (mem0 rfl) rfl | exact kd _ (mem1 rfl) rfl | exact kd _ (mem2 rfl) rfl | exact kd _ (mem3 rfl) rfl | exact kd _ (mem4 rfl) rfl | exact kd _ (mem5 rfl) rfl
      have t20 : ρ (.tmp 20) = .agg #[.int .i64 t.proto, .int .i64 t.src, .int .i64 t.sport, .int .i64 t.dst, .int .i64 t.dport, .int .i64 t.kind] := (ks 4 20 (by decide) rfl).trans d4
      simp [execOp, go_sem, kc, kf, t17, t18, t20]
      simp only [RanS]
      refine Calls.mono (HSP.out _ _ _ hz17) (fun e x h => ?_)
      obtain ⟨rfl, hb⟩ := h
      exact ⟨_, rfl, hC.trans (hb.mono hC.size), hb, rfl, fun _ => trivial⟩
    · refine ⟨rfl, fun v W ρ hC kc kf ks ki kd => ?_⟩
      simp [execOp, go_sem, kc, kf, ]
      simp only [RanS]
      exact ⟨hC.alloc hC.size _, (Below.refl _ _).alloc (Nat.le_refl _) _, ⟨W.heap.size, rfl, hC.size, heap_newG _ _⟩, fun _ => trivial⟩
  intro v WW1 w1 gB new hC hall hrl hvB hnB e hheap hoth hbel
  have e1 : v 5 = .agg #[.int .i64 q.kind, .int .i64 q.proto, .int .i64 q.net, .int .i64 q.bits, .int .i64 q.goal, .int .i64 q.low, .int .i64 q.high] := hall 5 (by decide)
  rw [e1] at e
  injection e with e
  subst e
  have hb1 := hC.trans (hbel w0.heap.size hnB hC.size)
  have hL1 := hidS (hL0.out.trans (hb1.mono hL0.out.size))
  have hGT1 := hidS (blk_later hGT0.out hb1)
  have hGW1 := hidS hheap
  have lB := hL0.out.size
  simp [upto, Act.put]
  rw [hvB]
  clear hall hrl hvB hnB e1 hheap hoth hbel hC hb1 hL0 hGT0
  go_wp2_with fail
  refine (HTO.out _ hL1.out).mono ?_
  rintro _ w2 ⟨bx, rfl, hlx, hrx, hb2⟩
  have hGT2 := hidS (blk_later hGT1.out hb2)
  have hGW2 := hidS (blk_later hGW1.out hb2)
  have hZx2 := hidS (rowB_new hrx).read
  have hL2 := hidS (hL1.out.trans (hb2.mono hL1.out.size))
  clear hrx hb2 hL1 hGT1 hGW1
  have cT0 := blk_cell hGT2.out 0
  have cT1 := blk_cell hGT2.out 1
  have cT2 := blk_cell hGT2.out 2
  have cT3 := blk_cell hGT2.out 3
  have cT4 := blk_cell hGT2.out 4
  have cT5 := blk_cell hGT2.out 5
  simp at cT0 cT1 cT2 cT3 cT4 cT5
  go_wp2_with fail
  refine (HTT.out _).mono ?_
  rintro _ w3 ⟨rfl, hb3⟩
  clear cT0 cT1 cT2 cT3 cT4 cT5
  have hGT3 := hidS (blk_later hGT2.out hb3)
  have hGW3 := hidS (blk_later hGW2.out hb3)
  have hZx3 := hidS (hZx2.out.later hb3)
  have hL3 := hidS (hL2.out.trans (hb3.mono hL2.out.size))
  clear hb3 hL2 hGT2 hGW2 hZx2
  go_wp2_with fail
  refine (HIM.out _ _ _ hZx3.out).mono ?_
  rintro _ w4 ⟨rfl, hb4⟩
  have hGT4 := hidS (blk_later hGT3.out hb4)
  have hGW4 := hidS (blk_later hGW3.out hb4)
  have hZx4 := hidS (hZx3.out.later hb4)
  have hL4 := hidS (hL3.out.trans (hb4.mono hL3.out.size))
  clear hb4 hL3 hGT3 hGW3 hZx3
  go_upto_region 8 with fail
  have hGG5 := hidS (heap_newG w4 (.cells #[.int .i64 q.kind, .int .i64 q.proto, .int .i64 q.net, .int .i64 q.bits, .int .i64 q.goal, .int .i64 q.low, .int .i64 q.high] 25))
  have hGT5 := hidS (blk_alloc hGT4.out (.cells #[.int .i64 q.kind, .int .i64 q.proto, .int .i64 q.net, .int .i64 q.bits, .int .i64 q.goal, .int .i64 q.low, .int .i64 q.high] 25))
  have hGW5 := hidS (blk_alloc hGW4.out (.cells #[.int .i64 q.kind, .int .i64 q.proto, .int .i64 q.net, .int .i64 q.bits, .int .i64 q.goal, .int .i64 q.low, .int .i64 q.high] 25))
  have hZx5 := hidS (hZx4.out.later ((Below.refl w4.heap.size w4).alloc (Nat.le_refl _) (.cells #[.int .i64 q.kind, .int .i64 q.proto, .int .i64 q.net, .int .i64 q.bits, .int .i64 q.goal, .int .i64 q.low, .int .i64 q.high] 25)))
  have hL5 := hidS (hL4.out.alloc hL4.out.size (.cells #[.int .i64 q.kind, .int .i64 q.proto, .int .i64 q.net, .int .i64 q.bits, .int .i64 q.goal, .int .i64 q.low, .int .i64 q.high] 25))
  clear hGT4 hGW4 hZx4 hL4
  generalize w4.alloc (.cells #[.int .i64 q.kind, .int .i64 q.proto, .int .i64 q.net, .int .i64 q.bits, .int .i64 q.goal, .int .i64 q.low, .int .i64 q.high] 25) = w5 at hGT5 hGW5 hGG5 hZx5 hL5 ⊢
  have cG0 := blk_cell hGG5.out 0
  have cG1 := blk_cell hGG5.out 1
  have cG2 := blk_cell hGG5.out 2
  have cG3 := blk_cell hGG5.out 3
  have cG4 := blk_cell hGG5.out 4
  have cG5 := blk_cell hGG5.out 5
  have cG6 := blk_cell hGG5.out 6
  simp at cG0 cG1 cG2 cG3 cG4 cG5 cG6
  have cW0 := blk_cell hGW5.out 0
  have cW1 := blk_cell hGW5.out 1
  have cW2 := blk_cell hGW5.out 2
  have cW3 := blk_cell hGW5.out 3
  have cW4 := blk_cell hGW5.out 4
  have cW5 := blk_cell hGW5.out 5
  have cW6 := blk_cell hGW5.out 6
  simp at cW0 cW1 cW2 cW3 cW4 cW5 cW6
  go_wp2_with fail
  refine (HEQ.out _).mono ?_
  rintro _ w6 ⟨rfl, hb6⟩
  clear cG0 cG1 cG2 cG3 cG4 cG5 cG6 cW0 cW1 cW2 cW3 cW4 cW5 cW6
  have hGT6 := hidS (blk_later hGT5.out hb6)
  have hGW6 := hidS (blk_later hGW5.out hb6)
  have hGG6 := hidS (blk_later hGG5.out hb6)
  have hZx6 := hidS (hZx5.out.later hb6)
  have hL6 := hidS (hL5.out.trans (hb6.mono hL5.out.size))
  clear hb6 hL5 hGT5 hGW5 hGG5 hZx5
  go_wp2_with fail
  refine (HTO.out _ hL6.out).mono ?_
  rintro _ w7 ⟨bz, rfl, hlz, hrz, hb7⟩
  have hGT7 := hidS (blk_later hGT6.out hb7)
  have hGW7 := hidS (blk_later hGW6.out hb7)
  have hGG7 := hidS (blk_later hGG6.out hb7)
  have hZx7 := hidS (hZx6.out.later hb7)
  have hZz7 := hidS (rowB_new hrz).read
  have hL7 := hidS (hL6.out.trans (hb7.mono hL6.out.size))
  clear hrz hb7 hL6 hGT6 hGW6 hGG6 hZx6
  go_wp2_with fail
  refine (HEX.out _ _ _ _ _ hZx7.out hZz7.out).mono ?_
  rintro _ w8 ⟨rfl, hb8⟩
  have hGT8 := hidS (blk_later hGT7.out hb8)
  have hGW8 := hidS (blk_later hGW7.out hb8)
  have hGG8 := hidS (blk_later hGG7.out hb8)
  have hZx8 := hidS (hZx7.out.later hb8)
  have hZz8 := hidS (hZz7.out.later hb8)
  have hL8 := hidS (hL7.out.trans (hb8.mono hL7.out.size))
  clear hb8 hL7 hGT7 hGW7 hGG7 hZx7 hZz7
  go_wp2_with fail
  go_ret
  exact ⟨rfl, hL8.out⟩

theorem ruleForLaw_walk (a : Option Addr) (cap : Nat) (l : List Rl) (kind : Int) (f2_0 f2_1 f2_2 f2_3 f2_4 f2_5 : Int) (w : World) (hR : RowZ a (flatRule l) w) (hm : l.length ≤ maxLen) (hk : (Lit.int .i64 kind).wf = true) (g2_0 : (Lit.int .i64 f2_0).wf = true) (g2_1 : (Lit.int .i64 f2_1).wf = true) (g2_2 : (Lit.int .i64 f2_2).wf = true) (g2_3 : (Lit.int .i64 f2_3).wf = true) (g2_4 : (Lit.int .i64 f2_4).wf = true) (g2_5 : (Lit.int .i64 f2_5).wf = true) :
    Calls Try.prog 6 #[.slice a l.length cap, .int .i64 kind, .agg #[.int .i64 f2_0, .int .i64 f2_1, .int .i64 f2_2, .int .i64 f2_3, .int .i64 f2_4, .int .i64 f2_5]] w fun e w' => e = .returned (.bool true) ∧ Below w.heap.size w w' :=
  ruleForLaw_all a cap l kind ⟨f2_0, f2_1, f2_2, f2_3, f2_4, f2_5⟩ w hR hm

theorem laidOut_fnExactRuleFor : laidOutB Try.prog = true := by kernel_rfl
theorem own_fnExactRuleFor : ownKnob Try.prog.godebug = none := by kernel_rfl
set_option maxRecDepth 100000 in
theorem lifted_fnExactRuleFor (os : Os) (started : os.Started) (H : Type) (enc : TypeId × Value → H) :
    ReturnsInHanded {} Try.checked os 6 .any (Rows.fnExactRuleForSpec.pre6 enc Try.prog Try.f6 Rows.fnExactRuleForRow.domain false) (Rows.fnExactRuleForSpec.post enc Try.prog Try.f6 false true false false) := by
  refine returnsInHanded_of_change (C := Try.checked) own_fnExactRuleFor started (by kernel_rfl) Try.func6
    (ChangeSpec.witness6 (enc := enc) (C := Try.checked) false ⟨#[], #[.slice none 0 0, .int .i64 0, .agg #[.int .i64 0, .int .i64 0, .int .i64 0, .int .i64 0, .int .i64 0, .int .i64 0]], []⟩ 8 (by kernel_rfl) (by kernel_rfl) (by kernel_rfl) (by kernel_rfl)) ?_
  intro W base args ds gs before hval0 hW hcnd _
  have hval : ∀ (j : Nat) t v, Try.f6.params[j]? = some t → args[j]? = some v → Value.okWide Try.prog W .any base t v := hval0
  have hW' := hW
  obtain ⟨p, q, hA0, hV, rfl, hfz, hnd⟩ := hW
  have hA : DataW.TrodAll enc Try.prog W 0 (fun _ => true) true Try.f6.params.toList args.toList ds p := hA0
  rw [Try.params6] at hA hval
  obtain ⟨v0, vs0, d0, ds0, p0, q0, hargs, rfl, rfl, h0, r0⟩ := trodAll_cons hA
  obtain ⟨v1, vs1, d1, ds1, p1, q1, rfl, rfl, rfl, h1, r1⟩ := trodAll_cons r0
  obtain ⟨v2, vs2, d2, ds2, p2, q2, rfl, rfl, rfl, h2, r2⟩ := trodAll_cons r1
  obtain ⟨rfl, rfl, rfl⟩ := trodAll_nil r2
  obtain rfl : args = #[v0, v1, v2] := by cases args; simp_all
  obtain ⟨rfl, rfl⟩ := trodVars_none hV
  have k0 := h0
  have lt0 : ∀ x ∈ p0, x.block < W.heap.size := by obtain ⟨m, hm⟩ := k0; exact DataW.trod_lt m _ _ _ hm
  obtain ⟨a0, cap0, s0, rfl, z0, m0⟩ := open_rules (hval 0 28 v0 rfl rfl) h0
  obtain ⟨a1, rfl, rfl, rfl, w1⟩ := open_int Try.underlying2 (hval 1 2 v1 rfl rfl) h1
  have k2 := h2
  have lt2 : ∀ x ∈ p2, x.block < W.heap.size := by obtain ⟨m, hm⟩ := k2; exact DataW.trod_lt m _ _ _ hm
  obtain ⟨f2_0, f2_1, f2_2, f2_3, f2_4, f2_5, rfl, g2_0, g2_1, g2_2, g2_3, g2_4, g2_5⟩ := open_tuple (hval 2 37 v2 rfl rfl) h2
  clear hA0 hval0
  refine (ruleForLaw_walk a0 cap0 s0 a1 f2_0 f2_1 f2_2 f2_3 f2_4 f2_5 W z0 m0 w1 g2_0 g2_1 g2_2 g2_3 g2_4 g2_5).mono fun e W' ⟨he, bel⟩ => ?_
  subst he
  exact ⟨_, rfl, _, _, _, [], _, [], hW', trodAll_mk1 (shut_bool Try.underlying4 _), (trodAll_cons_mk (Below.trod laidOut_fnExactRuleFor (by kernel_rfl) (of_decide_eq_true (by kernel_rfl)) k0 bel lt0) (trodAll_cons_mk (shut_int Try.underlying2 w1) (trodAll_cons_mk (Below.trod laidOut_fnExactRuleFor (by kernel_rfl) (of_decide_eq_true (by kernel_rfl)) k2 bel lt2) trodAll_mk0))), rfl, bel.frame _, fun h => by cases h⟩

theorem ruleFor_holds : Rows.FnExactRuleForSaid :=
  OpenClaim.holds_of_wide 6 Try.f6 rfl rfl rfl rfl rfl rfl rfl ⟨rfl, rfl, rfl, rfl, rfl⟩ rfl rfl rfl rfl rfl (by kernel_rfl) Try.func6 (by kernel_rfl)
    (of_decide_eq_true (by kernel_rfl)) (by unfold Func.isWrapper; first | (rw [if_pos (by decide +kernel)]; kernel_rfl) | (rw [if_neg (by decide +kernel)]; exact ⟨rfl, rfl⟩))
    (fun os started H enc _ => lifted_fnExactRuleFor os started H enc)
#print axioms ruleFor_holds
end Go.Proofs.Ytfnpobhjkmkepaa
