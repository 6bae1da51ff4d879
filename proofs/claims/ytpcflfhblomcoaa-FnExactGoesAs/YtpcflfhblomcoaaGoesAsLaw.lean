/- Proved here: laws.FnExactGoesAs returns true at every argument, and each argument reads afterwards as before (no conditions). -/
import Derived.Test.YtpcflfhblomcoaaOpenRules
import Derived.Test.YtpcflfhblomcoaaOpenTuples
import Derived.Test.YtpcflfhblomcoaaAll10
import Derived.Test.YtpcflfhblomcoaaLawsRules
import Derived.Test.YtpcflfhblomcoaaLawsTuples
import Derived.Test.YtpcflfhblomcoaaAll13
import Derived.Test.YtpcflfhblomcoaaAll15
import Derived.Test.YtpcflfhblomcoaaKindsR
import Derived.Test.YtpcflfhblomcoaaGrowLast
import Derived.Test.YtpcflfhblomcoaaAll19
import Derived.Test.YtpcflfhblomcoaaAll11
import Derived.Test.YtpcflfhblomcoaaGoesAS
import Derived.Test.YtpcflfhblomcoaaGoesI
import Derived.WalkKit
import Derived.WalkSpells
import Derived.ProofKit
import Derived.OpenShut
import Derived.ShutString
import Derived.Handy
import Derived.Below
namespace Go.Proofs.Ytpcflfhblomcoaa
open Go.ChangeShapes Go.WideShapes Go.ChangeAt Go.RowKit
open Go.ChangeMaps (open_string shut_string)
set_option linter.unusedVariables false

set_option linter.unusedSimpArgs false
set_option maxHeartbeats 8000000 in
theorem goesAsLaw_all (a b : Option Addr) (cap cap2 : Nat) (l : List Rl) (used : List Tp) (t : Tp) (start : Int) (w : World) (hR : RowZ a (flatRule l) w) (hU : RowZ b (flatTuple used) w) (hm : l.length ≤ maxLen) (hm2 : used.length ≤ maxLen) :
    Calls Try.prog 5 #[.slice a l.length cap, .agg #[.int .i64 t.proto, .int .i64 t.src, .int .i64 t.sport, .int .i64 t.dst, .int .i64 t.dport, .int .i64 t.kind], .int .i64 start, .slice b used.length cap2] w fun e w' => e = .returned (.bool true) ∧ Below w.heap.size w w' := by
  have hm' : l.length ≤ 9223372036854775807 := hm
  have hm3 : used.length ≤ 9223372036854775807 := hm2
  have HR := hidS hR
  have HU := hidS hU
  clear hR hm hm2 hU
  have HSZ := hidS (fun W => szRules_any a l.length cap 1048576 W hm' (by omega) (by omega))
  by_cases hbig : 1048576 < l.length
  · rw [if_pos (by omega)] at HSZ
    have hGT0 : Hid ((w.alloc (.cells #[.int .i64 t.proto, .int .i64 t.src, .int .i64 t.sport, .int .i64 t.dst, .int .i64 t.dport, .int .i64 t.kind] 73)).heap[w.heap.size]? = some (.cells #[.int .i64 t.proto, .int .i64 t.src, .int .i64 t.sport, .int .i64 t.dst, .int .i64 t.dport, .int .i64 t.kind] 73)) := by
      show _ = _
      have := heap_newG w (.cells #[.int .i64 t.proto, .int .i64 t.src, .int .i64 t.sport, .int .i64 t.dst, .int .i64 t.dport, .int .i64 t.kind] 73)
      simpa using this
    have hL0 := hidS ((Below.refl w.heap.size w).alloc (Nat.le_refl _) (.cells #[.int .i64 t.proto, .int .i64 t.src, .int .i64 t.sport, .int .i64 t.dst, .int .i64 t.dport, .int .i64 t.kind] 73))
    go_enter Try.func5, Try.ntmps5
    go_wp2_with fail
    refine (HSZ.out _).mono ?_
    rintro _ v9 ⟨rfl, hv9⟩
    rw [hv9]
    clear hv9 v9
    go_wp2_with fail
    go_ret
    exact ⟨rfl, hL0.out⟩
  rw [if_neg (by omega)] at HSZ
  have hlen : l.length ≤ 1048576 := by omega
  have hnn : ¬ (1048576 - (l.length : Int)) < 0 := by omega
  have HSY := hidS (fun W => szTuples_any b used.length cap2 (1048576 - (l.length : Int)) W hm3 (by omega) (by omega))
  by_cases hbig2 : (1048576 - (l.length : Int)) < (used.length : Int)
  · rw [if_pos hbig2] at HSY
    have hGT0 : Hid ((w.alloc (.cells #[.int .i64 t.proto, .int .i64 t.src, .int .i64 t.sport, .int .i64 t.dst, .int .i64 t.dport, .int .i64 t.kind] 73)).heap[w.heap.size]? = some (.cells #[.int .i64 t.proto, .int .i64 t.src, .int .i64 t.sport, .int .i64 t.dst, .int .i64 t.dport, .int .i64 t.kind] 73)) := by
      show _ = _
      have := heap_newG w (.cells #[.int .i64 t.proto, .int .i64 t.src, .int .i64 t.sport, .int .i64 t.dst, .int .i64 t.dport, .int .i64 t.kind] 73)
      simpa using this
    have hL0 := hidS ((Below.refl w.heap.size w).alloc (Nat.le_refl _) (.cells #[.int .i64 t.proto, .int .i64 t.src, .int .i64 t.sport, .int .i64 t.dst, .int .i64 t.dport, .int .i64 t.kind] 73))
    go_enter Try.func5, Try.ntmps5
    go_wp2_with fail
    refine (HSZ.out _).mono ?_
    rintro _ v9 ⟨rfl, hv9⟩
    rw [hv9]
    clear hv9 v9
    go_wp2_with fail
    refine (HSY.out _).mono ?_
    rintro _ v9 ⟨rfl, hv9⟩
    rw [hv9]
    clear hv9 v9
    go_wp2_with fail
    go_ret
    exact ⟨rfl, hL0.out⟩
  rw [if_neg hbig2] at HSY
  have hlen2 : used.length ≤ 1048576 := by omega
  have hnn2 : ¬ (1048576 - (l.length : Int) - (used.length : Int)) < 0 := by omega
  have HTO := hidS (fun W (h : Below w.heap.size w W) => toRules_any a cap l W (HR.out.later h) hlen)
  have HTU := hidS (fun W (h : Below w.heap.size w W) => toTuples_any b cap2 used W (HU.out.later h) hlen2)
  have HTT := hidS (fun W => toTuple_any t W)
  have HSP := hidS (fun b b' c c' W (h : RowZ (some ⟨b, 0, none⟩) (flatRule l) W) (h' : RowZ (some ⟨b', 0, none⟩) (flatTuple used) W) => specGoesAs_any (some ⟨b, 0, none⟩) (some ⟨b', 0, none⟩) c c' l used t start W h h' hlen hlen2)
  have HIM := hidS (fun b b' c c' W (h : RowZ (some ⟨b, 0, none⟩) (flatRule l) W) (h' : RowZ (some ⟨b', 0, none⟩) (flatTuple used) W) => implGoesAs_any (some ⟨b, 0, none⟩) (some ⟨b', 0, none⟩) c c' l used t start W h h' hlen hlen2)
  have HEX := hidS (fun b b' c c' W (h : RowZ (some ⟨b, 0, none⟩) (flatRule l) W) (h' : RowZ (some ⟨b', 0, none⟩) (flatRule l) W) => eqRules_any (some ⟨b, 0, none⟩) (some ⟨b', 0, none⟩) c c' l W h h' hlen)
  have HEY := hidS (fun b b' c c' W (h : RowZ (some ⟨b, 0, none⟩) (flatTuple used) W) (h' : RowZ (some ⟨b', 0, none⟩) (flatTuple used) W) => eqTuples_any (some ⟨b, 0, none⟩) (some ⟨b', 0, none⟩) c c' used W h h' hlen2)
  generalize goesT l t start used = q at HSP HIM
  generalize goesC l t start used = c at HSP HIM
  have HEQ := hidS (fun W => eqTupleOut_same q c W)
  clear hbig hm' hm3 hbig2
  have hGT0 : Hid ((w.alloc (.cells #[.int .i64 t.proto, .int .i64 t.src, .int .i64 t.sport, .int .i64 t.dst, .int .i64 t.dport, .int .i64 t.kind] 73)).heap[w.heap.size]? = some (.cells #[.int .i64 t.proto, .int .i64 t.src, .int .i64 t.sport, .int .i64 t.dst, .int .i64 t.dport, .int .i64 t.kind] 73)) := by
    show _ = _
    have := heap_newG w (.cells #[.int .i64 t.proto, .int .i64 t.src, .int .i64 t.sport, .int .i64 t.dst, .int .i64 t.dport, .int .i64 t.kind] 73)
    simpa using this
  have hL0 := hidS ((Below.refl w.heap.size w).alloc (Nat.le_refl _) (.cells #[.int .i64 t.proto, .int .i64 t.src, .int .i64 t.sport, .int .i64 t.dst, .int .i64 t.dport, .int .i64 t.kind] 73))
  go_enter Try.func5, Try.ntmps5
  go_wp2_with fail
  refine (HSZ.out _).mono ?_
  rintro _ v9 ⟨rfl, hv9⟩
  rw [hv9]
  clear hv9 v9
  go_wp2_with fail
  refine (HSY.out _).mono ?_
  rintro _ v9 ⟨rfl, hv9⟩
  rw [hv9]
  clear hv9 v9
  go_wp2_with fail
  generalize (w.alloc (.cells #[.int .i64 t.proto, .int .i64 t.src, .int .i64 t.sport, .int .i64 t.dst, .int .i64 t.dport, .int .i64 t.kind] 73)) = w0 at hGT0 hL0 ⊢
  refine grow_pair_store 9 _ [isP (.slice a l.length cap), rowK l.length (flatRule l), isP (.agg #[.int .i64 t.proto, .int .i64 t.src, .int .i64 t.sport, .int .i64 t.dst, .int .i64 t.dport, .int .i64 t.kind]), isP (.agg #[.int .i64 t.proto, .int .i64 t.src, .int .i64 t.sport, .int .i64 t.dst, .int .i64 t.dport, .int .i64 t.kind]), isP (.int .i64 start), isP (.slice b used.length cap2), rowK used.length (flatTuple used), isP (.agg #[.int .i64 q.proto, .int .i64 q.src, .int .i64 q.sport, .int .i64 q.dst, .int .i64 q.dport, .int .i64 q.kind, .int .i64 c]), mkB w0.heap.size #[.int .i64 0, .int .i64 0, .int .i64 0, .int .i64 0, .int .i64 0, .int .i64 0, .int .i64 0] 57] 7 8 (by decide) noR 7 10 31 57 57 #[.int .i64 0, .int .i64 0, .int .i64 0, .int .i64 0, .int .i64 0, .int .i64 0, .int .i64 0] 7 rfl rfl rfl (by kernel_rfl) (by kernel_rfl) (by kernel_rfl) ⟨(fun v W W' h _ => h), (rowK_last _ _), (fun v W W' h _ => h), (fun v W W' h _ => h), (fun v W W' h _ => h), (fun v W W' h _ => h), (rowK_last _ _), (fun v W W' h _ => h), (mkB_last _ _ _), trivial⟩ noR_last (by decide) (by decide) (by decide) rfl rfl rfl rfl (fun v W h => h) (fun v W h => by have e : v = .agg #[.int .i64 q.proto, .int .i64 q.src, .int .i64 q.sport, .int .i64 q.dst, .int .i64 q.dport, .int .i64 q.kind, .int .i64 c] := h; exact ⟨_, e, rfl, by simp [Value.oneCell']⟩) rfl (by kernel_rfl) ?stepsA ?finA
  case stepsA =>
    refine ⟨?_, ?_, ?_, ?_, ?_, ?_, ?_, ?_, ?_, trivial⟩
    · refine ⟨rfl, fun v W ρ hC kc kf ks ki kd => ?_⟩
      have t0 : ρ (.tmp 0) = .slice a l.length cap := ki 0 (by decide)
      simp [execOp, go_sem, kc, t0]
      simp only [RanS]
      first | exact ⟨hC, Below.refl _ _, rfl⟩ | exact ⟨hC, Below.refl _ _, rfl, by first | exact fun _ _ => trivial | exact fun h => absurd h (by decide), by first | exact fun _ _ => trivial | exact fun h => absurd h (by decide)⟩
    · refine ⟨rfl, fun v W ρ hC kc kf ks ki kd => ?_⟩
      have d0 : v 0 = .slice a l.length cap := by first | exact kd _ (mem0 rfl) rfl | exact kd _ (mem1 rfl) rfl | exact kd _ (mem2 rfl) rfl | exact kd _ (mem3 rfl) rfl | exact kd _ (mem4 rfl) rfl | exact kd _ (mem5 rfl) rfl | exact kd _ (Array.mem_of_getElem? (i := 6) rfl) rfl | exact kd _ (Array.mem_of_getElem? (i := 7) rfl) rfl
      have t24 : ρ (.tmp 24) = .slice a l.length cap := (ks 0 24 (by decide) rfl).trans d0
      simp [execOp, go_sem, kc, kf, t24]
      simp only [RanS]
      refine Calls.mono (HTO.out W (hL0.out.trans (hC.mono hL0.out.size))) (fun e x h => ?_)
      obtain ⟨b, rfl, _, hr, hb⟩ := h
      exact ⟨_, rfl, hC.trans (hb.mono hC.size), hb, ⟨b, rfl, (rowB_new hr).read⟩⟩
    · refine ⟨rfl, fun v W ρ hC kc kf ks ki kd => ?_⟩
      have t5 : ρ (.tmp 5) = .pointer (some ⟨w.heap.size, 0, none⟩) := ki 5 (by decide)
      have hg := blk_later hGT0.out hC
      have c0 := blk_cell hg 0
      have c1 := blk_cell hg 1
      have c2 := blk_cell hg 2
      have c3 := blk_cell hg 3
      have c4 := blk_cell hg 4
      have c5 := blk_cell hg 5
      simp at c0 c1 c2 c3 c4 c5
      simp [execOp, go_sem, kc, t5, c0, c1, c2, c3, c4, c5]
      simp only [RanS]
      first | exact ⟨hC, Below.refl _ _, rfl⟩ | exact ⟨hC, Below.refl _ _, rfl, by first | exact fun _ _ => trivial | exact fun h => absurd h (by decide), by first | exact fun _ _ => trivial | exact fun h => absurd h (by decide)⟩
    · refine ⟨rfl, fun v W ρ hC kc kf ks ki kd => ?_⟩
      have d2 : v 2 = .agg #[.int .i64 t.proto, .int .i64 t.src, .int .i64 t.sport, .int .i64 t.dst, .int .i64 t.dport, .int .i64 t.kind] := by first | exact kd _ (mem0 rfl) rfl | exact kd _ (mem1 rfl) rfl | exact kd _ (mem2 rfl) rfl | exact kd _ (mem3 rfl) rfl | exact kd _ (mem4 rfl) rfl | exact kd _ (mem5 rfl) rfl | exact kd _ (Array.mem_of_getElem? (i := 6) rfl) rfl | exact kd _ (Array.mem_of_getElem? (i := 7) rfl) rfl
      have t26 : ρ (.tmp 26) = .agg #[.int .i64 t.proto, .int .i64 t.src, .int .i64 t.sport, .int .i64 t.dst, .int .i64 t.dport, .int .i64 t.kind] := (ks 2 26 (by decide) rfl).trans d2
      simp [execOp, go_sem, kc, t26, kf]
      simp only [RanS]
      first | exact Calls.mono (HTT.out W) (fun e x h => ⟨_, h.1, hC.trans (h.2.mono hC.size), h.2, rfl⟩) | exact Calls.mono (HTT.out W) (fun e x h => ⟨_, h.1, hC.trans (h.2.mono hC.size), h.2, rfl, by first | exact fun _ _ => trivial | exact fun h => absurd h (by decide), by first | exact fun _ _ => trivial | exact fun h => absurd h (by decide)⟩)
    · refine ⟨rfl, fun v W ρ hC kc kf ks ki kd => ?_⟩
      have t2 : ρ (.tmp 2) = .int .i64 start := ki 2 (by decide)
      simp [execOp, go_sem, kc, t2]
      simp only [RanS]
      first | exact ⟨hC, Below.refl _ _, rfl⟩ | exact ⟨hC, Below.refl _ _, rfl, by first | exact fun _ _ => trivial | exact fun h => absurd h (by decide), by first | exact fun _ _ => trivial | exact fun h => absurd h (by decide)⟩
    · refine ⟨rfl, fun v W ρ hC kc kf ks ki kd => ?_⟩
      have t3 : ρ (.tmp 3) = .slice b used.length cap2 := ki 3 (by decide)
      simp [execOp, go_sem, kc, t3]
      simp only [RanS]
      first | exact ⟨hC, Below.refl _ _, rfl⟩ | exact ⟨hC, Below.refl _ _, rfl, by first | exact fun _ _ => trivial | exact fun h => absurd h (by decide), by first | exact fun _ _ => trivial | exact fun h => absurd h (by decide)⟩
    · refine ⟨rfl, fun v W ρ hC kc kf ks ki kd => ?_⟩
      have d5 : v 5 = .slice b used.length cap2 := by first | exact kd _ (mem0 rfl) rfl | exact kd _ (mem1 rfl) rfl | exact kd _ (mem2 rfl) rfl | exact kd _ (mem3 rfl) rfl | exact kd _ (mem4 rfl) rfl | exact kd _ (mem5 rfl) rfl | exact kd _ (Array.mem_of_getElem? (i := 6) rfl) rfl | exact kd _ (Array.mem_of_getElem? (i := 7) rfl) rfl
      have t29 : ρ (.tmp 29) = .slice b used.length cap2 := (ks 5 29 (by decide) rfl).trans d5
      simp [execOp, go_sem, kc, kf, t29]
      simp only [RanS]
      refine Calls.mono (HTU.out W (hL0.out.trans (hC.mono hL0.out.size))) (fun e x h => ?_)
      obtain ⟨b, rfl, _, hr, hb⟩ := h
      exact ⟨_, rfl, hC.trans (hb.mono hC.size), hb, ⟨b, rfl, (rowB_new hr).read⟩⟩
    · refine ⟨rfl, fun v W ρ hC kc kf ks ki kd => ?_⟩
      obtain ⟨xb25, e25, hz25⟩ : (rowK l.length (flatRule l)) (v 1) W := by first | exact kd _ (mem0 rfl) rfl | exact kd _ (mem1 rfl) rfl | exact kd _ (mem2 rfl) rfl | exact kd _ (mem3 rfl) rfl | exact kd _ (mem4 rfl) rfl | exact kd _ (mem5 rfl) rfl | exact kd _ (Array.mem_of_getElem? (i := 6) rfl) rfl | exact kd _ (Array.mem_of_getElem? (i := 7) rfl) rfl
      have t25 : ρ (.tmp 25) = .slice (some ⟨xb25, 0, none⟩) l.length l.length := (ks 1 25 (by decide) rfl).trans e25
      obtain ⟨xb30, e30, hz30⟩ : (rowK used.length (flatTuple used)) (v 6) W := by first | exact kd _ (mem0 rfl) rfl | exact kd _ (mem1 rfl) rfl | exact kd _ (mem2 rfl) rfl | exact kd _ (mem3 rfl) rfl | exact kd _ (mem4 rfl) rfl | exact kd _ (mem5 rfl) rfl | exact kd _ (Array.mem_of_getElem? (i := 6) rfl) rfl | exact kd _ (Array.mem_of_getElem? (i := 7) rfl) rfl
      have t30 : ρ (.tmp 30) = .slice (some ⟨xb30, 0, none⟩) used.length used.length := (ks 6 30 (by decide) rfl).trans e30
      have d3 : v 3 = .agg #[.int .i64 t.proto, .int .i64 t.src, .int .i64 t.sport, .int .i64 t.dst, .int .i64 t.dport, .int .i64 t.kind] := by first | exact kd _ (mem0 rfl) rfl | exact kd _ (mem1 rfl) rfl | exact kd _ (mem2 rfl) rfl | exact kd _ (mem3 rfl) rfl | exact kd _ (mem4 rfl) rfl | exact kd _ (mem5 rfl) rfl | exact kd _ (Array.mem_of_getElem? (i := 6) rfl) rfl | exact kd _ (Array.mem_of_getElem? (i := 7) rfl) rfl
      have t27 : ρ (.tmp 27) = .agg #[.int .i64 t.proto, .int .i64 t.src, .int .i64 t.sport, .int .i64 t.dst, .int .i64 t.dport, .int .i64 t.kind] := (ks 3 27 (by decide) rfl).trans d3
      have d4 : v 4 = .int .i64 start := by first | exact kd _ (mem0 rfl) rfl | exact kd _ (mem1 rfl) rfl | exact kd _ (mem2 rfl) rfl | exact kd _ (mem3 rfl) rfl | exact kd _ (mem4 rfl) rfl | exact kd _ (mem5 rfl) rfl | exact kd _ (Array.mem_of_getElem? (i := 6) rfl) rfl | exact kd _ (Array.mem_of_getElem? (i := 7) rfl) rfl
      have t28 : ρ (.tmp 28) = .int .i64 start := (ks 4 28 (by decide) rfl).trans d4
      simp [execOp, go_sem, kc, kf, t25, t27, t28, t30]
      simp only [RanS]
      refine Calls.mono (HSP.out _ _ _ _ _ hz25 hz30) (fun e x h => ?_)
      obtain ⟨rfl, hb⟩ := h
      exact ⟨_, rfl, hC.trans (hb.mono hC.size), hb, rfl, fun _ => trivial⟩
    · refine ⟨rfl, fun v W ρ hC kc kf ks ki kd => ?_⟩
      simp [execOp, go_sem, kc, kf, ]
      simp only [RanS]
      exact ⟨hC.alloc hC.size _, (Below.refl _ _).alloc (Nat.le_refl _) _, ⟨W.heap.size, rfl, hC.size, heap_newG _ _⟩, fun _ => trivial⟩
  intro v WW1 w1 gB new hC hall hrl hvB hnB e hheap hoth hbel
  have e1 : v 7 = .agg #[.int .i64 q.proto, .int .i64 q.src, .int .i64 q.sport, .int .i64 q.dst, .int .i64 q.dport, .int .i64 q.kind, .int .i64 c] := hall 7 (by decide)
  rw [e1] at e
  injection e with e
  subst e
  have hb1 := hC.trans (hbel w0.heap.size hnB hC.size)
  have hL1 := hidS (hL0.out.trans (hb1.mono hL0.out.size))
  have hGT1 := hidS (blk_later hGT0.out hb1)
  have hGW1 := hidS hheap
  have lB := hL0.out.size
  simp [upto, Act.put]
  rw [hvB]
  clear hall hrl hvB hnB e1 hheap hoth hbel hC hb1 hL0 hGT0
  go_wp2_with fail
  refine (HTO.out _ hL1.out).mono ?_
  rintro _ w2 ⟨bx, rfl, hlx, hrx, hb2⟩
  have hGT2 := hidS (blk_later hGT1.out hb2)
  have hGW2 := hidS (blk_later hGW1.out hb2)
  have hZx2 := hidS (rowB_new hrx).read
  have hL2 := hidS (hL1.out.trans (hb2.mono hL1.out.size))
  clear hrx hb2 hL1 hGT1 hGW1
  go_wp2_with fail
  refine (HTU.out _ hL2.out).mono ?_
  rintro _ w3 ⟨bu, rfl, hlu, hru, hb3⟩
  have hGT3 := hidS (blk_later hGT2.out hb3)
  have hGW3 := hidS (blk_later hGW2.out hb3)
  have hZx3 := hidS (hZx2.out.later hb3)
  have hZu3 := hidS (rowB_new hru).read
  have hL3 := hidS (hL2.out.trans (hb3.mono hL2.out.size))
  clear hru hb3 hL2 hGT2 hGW2 hZx2
  have cT0 := blk_cell hGT3.out 0
  have cT1 := blk_cell hGT3.out 1
  have cT2 := blk_cell hGT3.out 2
  have cT3 := blk_cell hGT3.out 3
  have cT4 := blk_cell hGT3.out 4
  have cT5 := blk_cell hGT3.out 5
  simp at cT0 cT1 cT2 cT3 cT4 cT5
  go_wp2_with fail
  refine (HTT.out _).mono ?_
  rintro _ w4 ⟨rfl, hb4⟩
  clear cT0 cT1 cT2 cT3 cT4 cT5
  have hGT4 := hidS (blk_later hGT3.out hb4)
  have hGW4 := hidS (blk_later hGW3.out hb4)
  have hZx4 := hidS (hZx3.out.later hb4)
  have hZu4 := hidS (hZu3.out.later hb4)
  have hL4 := hidS (hL3.out.trans (hb4.mono hL3.out.size))
  clear hb4 hL3 hGT3 hGW3 hZx3 hZu3
  go_wp2_with fail
  refine (HIM.out _ _ _ _ _ hZx4.out hZu4.out).mono ?_
  rintro _ w5 ⟨rfl, hb5⟩
  have hGT5 := hidS (blk_later hGT4.out hb5)
  have hGW5 := hidS (blk_later hGW4.out hb5)
  have hZx5 := hidS (hZx4.out.later hb5)
  have hZu5 := hidS (hZu4.out.later hb5)
  have hL5 := hidS (hL4.out.trans (hb5.mono hL4.out.size))
  clear hb5 hL4 hGT4 hGW4 hZx4 hZu4
  go_upto_region 12 with fail
  have hGG6 := hidS (heap_newG w5 (.cells #[.int .i64 q.proto, .int .i64 q.src, .int .i64 q.sport, .int .i64 q.dst, .int .i64 q.dport, .int .i64 q.kind, .int .i64 c] 57))
  have hGT6 := hidS (blk_alloc hGT5.out (.cells #[.int .i64 q.proto, .int .i64 q.src, .int .i64 q.sport, .int .i64 q.dst, .int .i64 q.dport, .int .i64 q.kind, .int .i64 c] 57))
  have hGW6 := hidS (blk_alloc hGW5.out (.cells #[.int .i64 q.proto, .int .i64 q.src, .int .i64 q.sport, .int .i64 q.dst, .int .i64 q.dport, .int .i64 q.kind, .int .i64 c] 57))
  have hZx6 := hidS (hZx5.out.later ((Below.refl w5.heap.size w5).alloc (Nat.le_refl _) (.cells #[.int .i64 q.proto, .int .i64 q.src, .int .i64 q.sport, .int .i64 q.dst, .int .i64 q.dport, .int .i64 q.kind, .int .i64 c] 57)))
  have hZu6 := hidS (hZu5.out.later ((Below.refl w5.heap.size w5).alloc (Nat.le_refl _) (.cells #[.int .i64 q.proto, .int .i64 q.src, .int .i64 q.sport, .int .i64 q.dst, .int .i64 q.dport, .int .i64 q.kind, .int .i64 c] 57)))
  have hL6 := hidS (hL5.out.alloc hL5.out.size (.cells #[.int .i64 q.proto, .int .i64 q.src, .int .i64 q.sport, .int .i64 q.dst, .int .i64 q.dport, .int .i64 q.kind, .int .i64 c] 57))
  clear hGT5 hGW5 hZx5 hZu5 hL5
  generalize w5.alloc (.cells #[.int .i64 q.proto, .int .i64 q.src, .int .i64 q.sport, .int .i64 q.dst, .int .i64 q.dport, .int .i64 q.kind, .int .i64 c] 57) = w6 at hGT6 hGW6 hGG6 hZx6 hZu6 hL6 ⊢
  have cG0 := blk_cell hGG6.out 0
  have cG1 := blk_cell hGG6.out 1
  have cG2 := blk_cell hGG6.out 2
  have cG3 := blk_cell hGG6.out 3
  have cG4 := blk_cell hGG6.out 4
  have cG5 := blk_cell hGG6.out 5
  have cG6 := blk_cell hGG6.out 6
  simp at cG0 cG1 cG2 cG3 cG4 cG5 cG6
  have cW0 := blk_cell hGW6.out 0
  have cW1 := blk_cell hGW6.out 1
  have cW2 := blk_cell hGW6.out 2
  have cW3 := blk_cell hGW6.out 3
  have cW4 := blk_cell hGW6.out 4
  have cW5 := blk_cell hGW6.out 5
  have cW6 := blk_cell hGW6.out 6
  simp at cW0 cW1 cW2 cW3 cW4 cW5 cW6
  go_wp2_with fail
  refine (HEQ.out _).mono ?_
  rintro _ w7 ⟨rfl, hb7⟩
  clear cG0 cG1 cG2 cG3 cG4 cG5 cG6 cW0 cW1 cW2 cW3 cW4 cW5 cW6
  have hGT7 := hidS (blk_later hGT6.out hb7)
  have hGW7 := hidS (blk_later hGW6.out hb7)
  have hGG7 := hidS (blk_later hGG6.out hb7)
  have hZx7 := hidS (hZx6.out.later hb7)
  have hZu7 := hidS (hZu6.out.later hb7)
  have hL7 := hidS (hL6.out.trans (hb7.mono hL6.out.size))
  clear hb7 hL6 hGT6 hGW6 hGG6 hZx6 hZu6
  go_wp2_with fail
  refine (HTO.out _ hL7.out).mono ?_
  rintro _ w8 ⟨bz, rfl, hlz, hrz, hb8⟩
  have hGT8 := hidS (blk_later hGT7.out hb8)
  have hGW8 := hidS (blk_later hGW7.out hb8)
  have hGG8 := hidS (blk_later hGG7.out hb8)
  have hZx8 := hidS (hZx7.out.later hb8)
  have hZu8 := hidS (hZu7.out.later hb8)
  have hZz8 := hidS (rowB_new hrz).read
  have hL8 := hidS (hL7.out.trans (hb8.mono hL7.out.size))
  clear hrz hb8 hL7 hGT7 hGW7 hGG7 hZx7 hZu7
  go_wp2_with fail
  refine (HEX.out _ _ _ _ _ hZx8.out hZz8.out).mono ?_
  rintro _ w9 ⟨rfl, hb9⟩
  have hGT9 := hidS (blk_later hGT8.out hb9)
  have hGW9 := hidS (blk_later hGW8.out hb9)
  have hGG9 := hidS (blk_later hGG8.out hb9)
  have hZx9 := hidS (hZx8.out.later hb9)
  have hZu9 := hidS (hZu8.out.later hb9)
  have hZz9 := hidS (hZz8.out.later hb9)
  have hL9 := hidS (hL8.out.trans (hb9.mono hL8.out.size))
  clear hb9 hL8 hGT8 hGW8 hGG8 hZx8 hZu8 hZz8
  go_wp2_with fail
  refine (HTU.out _ hL9.out).mono ?_
  rintro _ w10 ⟨bv, rfl, hlv, hrv, hb10⟩
  have hGT10 := hidS (blk_later hGT9.out hb10)
  have hGW10 := hidS (blk_later hGW9.out hb10)
  have hGG10 := hidS (blk_later hGG9.out hb10)
  have hZx10 := hidS (hZx9.out.later hb10)
  have hZu10 := hidS (hZu9.out.later hb10)
  have hZz10 := hidS (hZz9.out.later hb10)
  have hZv10 := hidS (rowB_new hrv).read
  have hL10 := hidS (hL9.out.trans (hb10.mono hL9.out.size))
  clear hrv hb10 hL9 hGT9 hGW9 hGG9 hZx9 hZu9 hZz9
  go_wp2_with fail
  refine (HEY.out _ _ _ _ _ hZu10.out hZv10.out).mono ?_
  rintro _ w11 ⟨rfl, hb11⟩
  have hGT11 := hidS (blk_later hGT10.out hb11)
  have hGW11 := hidS (blk_later hGW10.out hb11)
  have hGG11 := hidS (blk_later hGG10.out hb11)
  have hZx11 := hidS (hZx10.out.later hb11)
  have hZu11 := hidS (hZu10.out.later hb11)
  have hZz11 := hidS (hZz10.out.later hb11)
  have hZv11 := hidS (hZv10.out.later hb11)
  have hL11 := hidS (hL10.out.trans (hb11.mono hL10.out.size))
  clear hb11 hL10 hGT10 hGW10 hGG10 hZx10 hZu10 hZz10 hZv10
  go_wp2_with fail
  go_ret
  exact ⟨rfl, hL11.out⟩

theorem goesAsLaw_walk (a : Option Addr) (cap : Nat) (l : List Rl) (f1_0 f1_1 f1_2 f1_3 f1_4 f1_5 : Int) (start : Int) (b : Option Addr) (cap2 : Nat) (used : List Tp) (w : World) (hR : RowZ a (flatRule l) w) (hm : l.length ≤ maxLen) (g1_0 : (Lit.int .i64 f1_0).wf = true) (g1_1 : (Lit.int .i64 f1_1).wf = true) (g1_2 : (Lit.int .i64 f1_2).wf = true) (g1_3 : (Lit.int .i64 f1_3).wf = true) (g1_4 : (Lit.int .i64 f1_4).wf = true) (g1_5 : (Lit.int .i64 f1_5).wf = true) (hs : (Lit.int .i64 start).wf = true) (hU : RowZ b (flatTuple used) w) (hm2 : used.length ≤ maxLen) :
    Calls Try.prog 5 #[.slice a l.length cap, .agg #[.int .i64 f1_0, .int .i64 f1_1, .int .i64 f1_2, .int .i64 f1_3, .int .i64 f1_4, .int .i64 f1_5], .int .i64 start, .slice b used.length cap2] w fun e w' => e = .returned (.bool true) ∧ Below w.heap.size w w' :=
  goesAsLaw_all a b cap cap2 l used ⟨f1_0, f1_1, f1_2, f1_3, f1_4, f1_5⟩ start w hR hU hm hm2

theorem laidOut_fnExactGoesAs : laidOutB Try.prog = true := by kernel_rfl
theorem own_fnExactGoesAs : ownKnob Try.prog.godebug = none := by kernel_rfl
set_option maxRecDepth 100000 in
theorem lifted_fnExactGoesAs (os : Os) (started : os.Started) (H : Type) (enc : TypeId × Value → H) :
    ReturnsInHanded {} Try.checked os 5 .any (Rows.fnExactGoesAsSpec.pre6 enc Try.prog Try.f5 Rows.fnExactGoesAsRow.domain false) (Rows.fnExactGoesAsSpec.post enc Try.prog Try.f5 false true false false) := by
  refine returnsInHanded_of_change (C := Try.checked) own_fnExactGoesAs started (by kernel_rfl) Try.func5
    (ChangeSpec.witness6 (enc := enc) (C := Try.checked) false ⟨#[], #[.slice none 0 0, .agg #[.int .i64 0, .int .i64 0, .int .i64 0, .int .i64 0, .int .i64 0, .int .i64 0], .int .i64 0, .slice none 0 0], []⟩ 8 (by kernel_rfl) (by kernel_rfl) (by kernel_rfl) (by kernel_rfl)) ?_
  intro W base args ds gs before hval0 hW hcnd _
  have hval : ∀ (j : Nat) t v, Try.f5.params[j]? = some t → args[j]? = some v → Value.okWide Try.prog W .any base t v := hval0
  have hW' := hW
  obtain ⟨p, q, hA0, hV, rfl, hfz, hnd⟩ := hW
  have hA : DataW.TrodAll enc Try.prog W 0 (fun _ => true) true Try.f5.params.toList args.toList ds p := hA0
  rw [Try.params5] at hA hval
  obtain ⟨v0, vs0, d0, ds0, p0, q0, hargs, rfl, rfl, h0, r0⟩ := trodAll_cons hA
  obtain ⟨v1, vs1, d1, ds1, p1, q1, rfl, rfl, rfl, h1, r1⟩ := trodAll_cons r0
  obtain ⟨v2, vs2, d2, ds2, p2, q2, rfl, rfl, rfl, h2, r2⟩ := trodAll_cons r1
  obtain ⟨v3, vs3, d3, ds3, p3, q3, rfl, rfl, rfl, h3, r3⟩ := trodAll_cons r2
  obtain ⟨rfl, rfl, rfl⟩ := trodAll_nil r3
  obtain rfl : args = #[v0, v1, v2, v3] := by cases args; simp_all
  obtain ⟨rfl, rfl⟩ := trodVars_none hV
  have k0 := h0
  have lt0 : ∀ x ∈ p0, x.block < W.heap.size := by obtain ⟨m, hm⟩ := k0; exact DataW.trod_lt m _ _ _ hm
  obtain ⟨a0, cap0, s0, rfl, z0, m0⟩ := open_rules (hval 0 72 v0 rfl rfl) h0
  have k1 := h1
  have lt1 : ∀ x ∈ p1, x.block < W.heap.size := by obtain ⟨m, hm⟩ := k1; exact DataW.trod_lt m _ _ _ hm
  obtain ⟨f1_0, f1_1, f1_2, f1_3, f1_4, f1_5, rfl, g1_0, g1_1, g1_2, g1_3, g1_4, g1_5⟩ := open_tuple (hval 1 73 v1 rfl rfl) h1
  obtain ⟨a2, rfl, rfl, rfl, w2⟩ := open_int Try.underlying2 (hval 2 2 v2 rfl rfl) h2
  have k3 := h3
  have lt3 : ∀ x ∈ p3, x.block < W.heap.size := by obtain ⟨m, hm⟩ := k3; exact DataW.trod_lt m _ _ _ hm
  obtain ⟨a3, cap3, s3, rfl, z3, m3⟩ := open_tuples (hval 3 74 v3 rfl rfl) h3
  clear hA0 hval0
  refine (goesAsLaw_walk a0 cap0 s0 f1_0 f1_1 f1_2 f1_3 f1_4 f1_5 a2 a3 cap3 s3 W z0 m0 g1_0 g1_1 g1_2 g1_3 g1_4 g1_5 w2 z3 m3).mono fun e W' ⟨he, bel⟩ => ?_
  subst he
  exact ⟨_, rfl, _, _, _, [], _, [], hW', trodAll_mk1 (shut_bool Try.underlying4 _), (trodAll_cons_mk (Below.trod laidOut_fnExactGoesAs (by kernel_rfl) (of_decide_eq_true (by kernel_rfl)) k0 bel lt0) (trodAll_cons_mk (Below.trod laidOut_fnExactGoesAs (by kernel_rfl) (of_decide_eq_true (by kernel_rfl)) k1 bel lt1) (trodAll_cons_mk (shut_int Try.underlying2 w2) (trodAll_cons_mk (Below.trod laidOut_fnExactGoesAs (by kernel_rfl) (of_decide_eq_true (by kernel_rfl)) k3 bel lt3) trodAll_mk0)))), rfl, bel.frame _, fun h => by cases h⟩

theorem goesAs_holds : Rows.FnExactGoesAsSaid :=
  OpenClaim.holds_of_wide 5 Try.f5 rfl rfl rfl rfl rfl rfl rfl ⟨rfl, rfl, rfl, rfl, rfl⟩ rfl rfl rfl rfl rfl (by kernel_rfl) Try.func5 (by kernel_rfl)
    (of_decide_eq_true (by kernel_rfl)) (by unfold Func.isWrapper; first | (rw [if_pos (by decide +kernel)]; kernel_rfl) | (rw [if_neg (by decide +kernel)]; exact ⟨rfl, rfl⟩))
    (fun os started H enc _ => lifted_fnExactGoesAs os started H enc)
#print axioms goesAs_holds
end Go.Proofs.Ytpcflfhblomcoaa
