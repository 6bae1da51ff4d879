/- Proved here: text of impl's ends, mark of its talk, impl.FlowText answer as the plain functions; all old memory stays (no conditions but those that stand there). -/
import Derived.Test.YtbhemimhmkgfiaaDoorFlowI0
import Derived.Test.YtbhemimhmkgfiaaDoorFlowTS
import Derived.Test.YtbhemimhmkgfiaaDoorTextI
import Derived.Test.YtbhemimhmkgfiaaDoorTcpNm
namespace Go.Proofs.YtbhemimhmkgfiaaDoor
open Go.ChangeShapes Go.WideShapes Go.ChangeAt Go.RowKit
set_option linter.unusedVariables false
set_option linter.unusedSimpArgs false
set_option maxRecDepth 100000

set_option maxHeartbeats 4000000 in
theorem mark_any (f : Fl) (w : World) : Calls Tryd.prog 31 #[.agg #[.int .i64 f.orig.proto, .int .i64 f.orig.src, .int .i64 f.orig.sport, .int .i64 f.orig.dst, .int .i64 f.orig.dport, .int .i64 f.orig.kind, .int .i64 f.back.proto, .int .i64 f.back.src, .int .i64 f.back.sport, .int .i64 f.back.dst, .int .i64 f.back.dport, .int .i64 f.back.kind, .int .i64 f.state, .bool f.seen, .bool f.sure, .int .i64 f.till, .int .i64 f.count]] w fun e w' => e = .returned (.string (markF f)) ∧ Below w.heap.size w w' := by
  have E : Hid (markF f = if f.sure then ⟨#[115, 117, 114, 101]⟩ else if f.seen then ⟨#[115, 101, 101, 110]⟩ else ⟨#[110, 101, 119]⟩) := rfl
  have hGK0 : Hid ((w.alloc (.cells #[.int .i64 f.orig.proto, .int .i64 f.orig.src, .int .i64 f.orig.sport, .int .i64 f.orig.dst, .int .i64 f.orig.dport, .int .i64 f.orig.kind, .int .i64 f.back.proto, .int .i64 f.back.src, .int .i64 f.back.sport, .int .i64 f.back.dst, .int .i64 f.back.dport, .int .i64 f.back.kind, .int .i64 f.state, .bool f.seen, .bool f.sure, .int .i64 f.till, .int .i64 f.count] 52)).heap[w.heap.size]? = some (.cells #[.int .i64 f.orig.proto, .int .i64 f.orig.src, .int .i64 f.orig.sport, .int .i64 f.orig.dst, .int .i64 f.orig.dport, .int .i64 f.orig.kind, .int .i64 f.back.proto, .int .i64 f.back.src, .int .i64 f.back.sport, .int .i64 f.back.dst, .int .i64 f.back.dport, .int .i64 f.back.kind, .int .i64 f.state, .bool f.seen, .bool f.sure, .int .i64 f.till, .int .i64 f.count] 52)) := by
    show _ = _
    have := heap_newG w (.cells #[.int .i64 f.orig.proto, .int .i64 f.orig.src, .int .i64 f.orig.sport, .int .i64 f.orig.dst, .int .i64 f.orig.dport, .int .i64 f.orig.kind, .int .i64 f.back.proto, .int .i64 f.back.src, .int .i64 f.back.sport, .int .i64 f.back.dst, .int .i64 f.back.dport, .int .i64 f.back.kind, .int .i64 f.state, .bool f.seen, .bool f.sure, .int .i64 f.till, .int .i64 f.count] 52)
    simpa using this
  have hL0 := hidS ((Below.refl w.heap.size w).alloc (Nat.le_refl _) (.cells #[.int .i64 f.orig.proto, .int .i64 f.orig.src, .int .i64 f.orig.sport, .int .i64 f.orig.dst, .int .i64 f.orig.dport, .int .i64 f.orig.kind, .int .i64 f.back.proto, .int .i64 f.back.src, .int .i64 f.back.sport, .int .i64 f.back.dst, .int .i64 f.back.dport, .int .i64 f.back.kind, .int .i64 f.state, .bool f.seen, .bool f.sure, .int .i64 f.till, .int .i64 f.count] 52))
  go_enter Tryd.func31, Tryd.ntmps31
  go_upto_region 1 with fail
  generalize (w.alloc (.cells #[.int .i64 f.orig.proto, .int .i64 f.orig.src, .int .i64 f.orig.sport, .int .i64 f.orig.dst, .int .i64 f.orig.dport, .int .i64 f.orig.kind, .int .i64 f.back.proto, .int .i64 f.back.src, .int .i64 f.back.sport, .int .i64 f.back.dst, .int .i64 f.back.dport, .int .i64 f.back.kind, .int .i64 f.state, .bool f.seen, .bool f.sure, .int .i64 f.till, .int .i64 f.count] 52)) = w0 at hGK0 hL0 ⊢
  have cK0 := blk_cell hGK0.out 0
  have cK1 := blk_cell hGK0.out 1
  have cK2 := blk_cell hGK0.out 2
  have cK3 := blk_cell hGK0.out 3
  have cK4 := blk_cell hGK0.out 4
  have cK5 := blk_cell hGK0.out 5
  have cK6 := blk_cell hGK0.out 6
  have cK7 := blk_cell hGK0.out 7
  have cK8 := blk_cell hGK0.out 8
  have cK9 := blk_cell hGK0.out 9
  have cK10 := blk_cell hGK0.out 10
  have cK11 := blk_cell hGK0.out 11
  have cK12 := blk_cell hGK0.out 12
  have cK13 := blk_cell hGK0.out 13
  have cK14 := blk_cell hGK0.out 14
  have cK15 := blk_cell hGK0.out 15
  have cK16 := blk_cell hGK0.out 16
  simp at cK0 cK1 cK2 cK3 cK4 cK5 cK6 cK7 cK8 cK9 cK10 cK11 cK12 cK13 cK14 cK15 cK16
  cases hu : f.sure
  · cases hn : f.seen
    · go_wp2_with fail
      go_ret
      exact ⟨by rw [E.out, hu, hn]; rfl, hL0.out⟩
    go_wp2_with fail
    go_ret
    exact ⟨by rw [E.out, hu, hn]; rfl, hL0.out⟩
  go_wp2_with fail
  go_ret
  exact ⟨by rw [E.out, hu]; rfl, hL0.out⟩
set_option maxHeartbeats 8000000 in
theorem endsText_any (o b : Tp) (w : World) (ho : rightT o = true) (hb : rightT b = true) (htab : Lib.TabIs Tryd.prog w "internal/strconv.uint64pow10" .u64 Lib.pow10Tab) : Calls Tryd.prog 29 #[.agg #[.int .i64 o.proto, .int .i64 o.src, .int .i64 o.sport, .int .i64 o.dst, .int .i64 o.dport, .int .i64 o.kind, .int .i64 b.proto, .int .i64 b.src, .int .i64 b.sport, .int .i64 b.dst, .int .i64 b.dport, .int .i64 b.kind]] w fun e w' => e = .returned (.string (catT [tupT o, ⟨#[32]⟩, tupT b])) ∧ Below w.heap.size w w' := by
  have HO := hidS (fun W (h : Below w.heap.size w W) => implText_yes o W ho (tab_later htab h))
  have HB := hidS (fun W (h : Below w.heap.size w W) => implText_yes b W hb (tab_later htab h))
  have z1 := tupT_size o
  have z2 := tupT_size b
  clear htab
  have hGE0 : Hid ((w.alloc (.cells #[.int .i64 o.proto, .int .i64 o.src, .int .i64 o.sport, .int .i64 o.dst, .int .i64 o.dport, .int .i64 o.kind, .int .i64 b.proto, .int .i64 b.src, .int .i64 b.sport, .int .i64 b.dst, .int .i64 b.dport, .int .i64 b.kind] 50)).heap[w.heap.size]? = some (.cells #[.int .i64 o.proto, .int .i64 o.src, .int .i64 o.sport, .int .i64 o.dst, .int .i64 o.dport, .int .i64 o.kind, .int .i64 b.proto, .int .i64 b.src, .int .i64 b.sport, .int .i64 b.dst, .int .i64 b.dport, .int .i64 b.kind] 50)) := by
    show _ = _
    have := heap_newG w (.cells #[.int .i64 o.proto, .int .i64 o.src, .int .i64 o.sport, .int .i64 o.dst, .int .i64 o.dport, .int .i64 o.kind, .int .i64 b.proto, .int .i64 b.src, .int .i64 b.sport, .int .i64 b.dst, .int .i64 b.dport, .int .i64 b.kind] 50)
    simpa using this
  have hL0 := hidS ((Below.refl w.heap.size w).alloc (Nat.le_refl _) (.cells #[.int .i64 o.proto, .int .i64 o.src, .int .i64 o.sport, .int .i64 o.dst, .int .i64 o.dport, .int .i64 o.kind, .int .i64 b.proto, .int .i64 b.src, .int .i64 b.sport, .int .i64 b.dst, .int .i64 b.dport, .int .i64 b.kind] 50))
  go_enter Tryd.func29, Tryd.ntmps29
  go_upto_region 1 with fail
  generalize (w.alloc (.cells #[.int .i64 o.proto, .int .i64 o.src, .int .i64 o.sport, .int .i64 o.dst, .int .i64 o.dport, .int .i64 o.kind, .int .i64 b.proto, .int .i64 b.src, .int .i64 b.sport, .int .i64 b.dst, .int .i64 b.dport, .int .i64 b.kind] 50)) = w0 at hGE0 hL0 ⊢
  refine grow_kinds 9 [.is (.pointer (some ⟨w.heap.size, 0, none⟩)), .is (.agg #[.int .i64 o.proto, .int .i64 o.src, .int .i64 o.sport, .int .i64 o.dst, .int .i64 o.dport, .int .i64 o.kind]), .is (.string (tupT o)), .is (.pointer (some ⟨w.heap.size, 6, none⟩)), .is (.agg #[.int .i64 b.proto, .int .i64 b.src, .int .i64 b.sport, .int .i64 b.dst, .int .i64 b.dport, .int .i64 b.kind]), .is (.string (tupT b)), .vals [.string (tupT o), .string ⟨#[32]⟩, .string (tupT b)], .is (.string (catT [(tupT o), ⟨#[32]⟩, (tupT b)])), .is (.string (catT [(tupT o), ⟨#[32]⟩, (tupT b)]))] rfl (by kernel_rfl) (by kernel_rfl) ?stepsA_21 ?finA_21
  case stepsA_21 =>
    refine ⟨?_, ?_, ?_, ?_, ?_, ?_, ?_, ?_, ?_, trivial⟩
    · refine ⟨rfl, fun v W ρ hC kc kf ks ki kd => ?_⟩
      have t1 : ρ (.tmp 1) = .pointer (some ⟨w.heap.size, 0, none⟩) := ki 1 (by decide)
      simp [execOp, go_sem, kc, t1]
      exact ⟨hC, Below.refl _ _, rfl⟩
    · refine ⟨rfl, fun v W ρ hC kc kf ks ki kd => ?_⟩
      have d0 : v 0 = .pointer (some ⟨w.heap.size, 0, none⟩) := by first | exact kd _ (mem0 rfl) rfl | exact kd _ (mem1 rfl) rfl | exact kd _ (mem2 rfl) rfl | exact kd _ (mem3 rfl) rfl | exact kd _ (mem4 rfl) rfl | exact kd _ (mem5 rfl) rfl | exact kd _ (Array.mem_of_getElem? (i := 6) rfl) rfl | exact kd _ (Array.mem_of_getElem? (i := 7) rfl) rfl
      have t3 : ρ (.tmp 3) = .pointer (some ⟨w.heap.size, 0, none⟩) := (ks 0 3 (by decide) rfl).trans d0
      have hg := blk_later hGE0.out hC
      have c0 := blk_cell hg 0
      have c1 := blk_cell hg 1
      have c2 := blk_cell hg 2
      have c3 := blk_cell hg 3
      have c4 := blk_cell hg 4
      have c5 := blk_cell hg 5
      simp at c0 c1 c2 c3 c4 c5
      simp [execOp, go_sem, kc, t3, c0, c1, c2, c3, c4, c5]
      exact ⟨hC, Below.refl _ _, rfl⟩
    · refine ⟨rfl, fun v W ρ hC kc kf ks ki kd => ?_⟩
      have d1 : v 1 = .agg #[.int .i64 o.proto, .int .i64 o.src, .int .i64 o.sport, .int .i64 o.dst, .int .i64 o.dport, .int .i64 o.kind] := by first | exact kd _ (mem0 rfl) rfl | exact kd _ (mem1 rfl) rfl | exact kd _ (mem2 rfl) rfl | exact kd _ (mem3 rfl) rfl | exact kd _ (mem4 rfl) rfl | exact kd _ (mem5 rfl) rfl | exact kd _ (Array.mem_of_getElem? (i := 6) rfl) rfl | exact kd _ (Array.mem_of_getElem? (i := 7) rfl) rfl
      have t4 : ρ (.tmp 4) = .agg #[.int .i64 o.proto, .int .i64 o.src, .int .i64 o.sport, .int .i64 o.dst, .int .i64 o.dport, .int .i64 o.kind] := (ks 1 4 (by decide) rfl).trans d1
      simp [execOp, go_sem, kc, t4, kf]
      exact Calls.mono (HO.out W (hL0.out.trans (hC.mono hL0.out.size))) (fun e x h => ⟨_, h.1, hC.trans (h.2.mono hC.size), h.2, rfl⟩)
    · refine ⟨rfl, fun v W ρ hC kc kf ks ki kd => ?_⟩
      have t1 : ρ (.tmp 1) = .pointer (some ⟨w.heap.size, 0, none⟩) := ki 1 (by decide)
      simp [execOp, go_sem, kc, t1]
      exact ⟨hC, Below.refl _ _, rfl⟩
    · refine ⟨rfl, fun v W ρ hC kc kf ks ki kd => ?_⟩
      have d3 : v 3 = .pointer (some ⟨w.heap.size, 6, none⟩) := by first | exact kd _ (mem0 rfl) rfl | exact kd _ (mem1 rfl) rfl | exact kd _ (mem2 rfl) rfl | exact kd _ (mem3 rfl) rfl | exact kd _ (mem4 rfl) rfl | exact kd _ (mem5 rfl) rfl | exact kd _ (Array.mem_of_getElem? (i := 6) rfl) rfl | exact kd _ (Array.mem_of_getElem? (i := 7) rfl) rfl
      have t6 : ρ (.tmp 6) = .pointer (some ⟨w.heap.size, 6, none⟩) := (ks 3 6 (by decide) rfl).trans d3
      have hg := blk_later hGE0.out hC
      have c6 := blk_cell hg 6
      have c7 := blk_cell hg 7
      have c8 := blk_cell hg 8
      have c9 := blk_cell hg 9
      have c10 := blk_cell hg 10
      have c11 := blk_cell hg 11
      simp at c6 c7 c8 c9 c10 c11
      simp [execOp, go_sem, kc, t6, c6, c7, c8, c9, c10, c11]
      exact ⟨hC, Below.refl _ _, rfl⟩
    · refine ⟨rfl, fun v W ρ hC kc kf ks ki kd => ?_⟩
      have d4 : v 4 = .agg #[.int .i64 b.proto, .int .i64 b.src, .int .i64 b.sport, .int .i64 b.dst, .int .i64 b.dport, .int .i64 b.kind] := by first | exact kd _ (mem0 rfl) rfl | exact kd _ (mem1 rfl) rfl | exact kd _ (mem2 rfl) rfl | exact kd _ (mem3 rfl) rfl | exact kd _ (mem4 rfl) rfl | exact kd _ (mem5 rfl) rfl | exact kd _ (Array.mem_of_getElem? (i := 6) rfl) rfl | exact kd _ (Array.mem_of_getElem? (i := 7) rfl) rfl
      have t7 : ρ (.tmp 7) = .agg #[.int .i64 b.proto, .int .i64 b.src, .int .i64 b.sport, .int .i64 b.dst, .int .i64 b.dport, .int .i64 b.kind] := (ks 4 7 (by decide) rfl).trans d4
      simp [execOp, go_sem, kc, t7, kf]
      exact Calls.mono (HB.out W (hL0.out.trans (hC.mono hL0.out.size))) (fun e x h => ⟨_, h.1, hC.trans (h.2.mono hC.size), h.2, rfl⟩)
    · refine ⟨rfl, fun v W ρ hC kc kf ks ki kd => ?_⟩
      have d2 : v 2 = .string (tupT o) := by first | exact kd _ (mem0 rfl) rfl | exact kd _ (mem1 rfl) rfl | exact kd _ (mem2 rfl) rfl | exact kd _ (mem3 rfl) rfl | exact kd _ (mem4 rfl) rfl | exact kd _ (mem5 rfl) rfl | exact kd _ (Array.mem_of_getElem? (i := 6) rfl) rfl | exact kd _ (Array.mem_of_getElem? (i := 7) rfl) rfl
      have t5 : ρ (.tmp 5) = .string (tupT o) := (ks 2 5 (by decide) rfl).trans d2
      have d5 : v 5 = .string (tupT b) := by first | exact kd _ (mem0 rfl) rfl | exact kd _ (mem1 rfl) rfl | exact kd _ (mem2 rfl) rfl | exact kd _ (mem3 rfl) rfl | exact kd _ (mem4 rfl) rfl | exact kd _ (mem5 rfl) rfl | exact kd _ (Array.mem_of_getElem? (i := 6) rfl) rfl | exact kd _ (Array.mem_of_getElem? (i := 7) rfl) rfl
      have t8 : ρ (.tmp 8) = .string (tupT b) := (ks 5 8 (by decide) rfl).trans d5
      simp [execOp, go_sem, t5, t8, kc]
      exact ⟨hC.alloc hC.size _, (Below.refl _ _).alloc (Nat.le_refl _) _, W.heap.size, rfl, vals_at [.string (tupT o), .string ⟨#[32]⟩, .string (tupT b)] _⟩
    · refine ⟨rfl, fun v W ρ hC kc kf ks ki kd => ?_⟩
      obtain ⟨B0, e0, hB0⟩ : ∃ B, v 6 = .slice (some ⟨B, 0, none⟩) 3 3 ∧ ValsAt B [.string (tupT o), .string ⟨#[32]⟩, .string (tupT b)] W := kd _ (Array.mem_of_getElem? (i := 0) rfl) rfl
      have t9 : ρ (.tmp 9) = v 6 := ks 6 9 (by decide) rfl
      rw [e0] at t9
      simp [execOp, go_sem, t9, kf]
      exact Calls.mono (joinTexts_any B0 [(tupT o), ⟨#[32]⟩, (tupT b)] _ (ValsAt.strs (ts := [(tupT o), ⟨#[32]⟩, (tupT b)]) hB0) hB0.1 (by simp) (by intro x hx; simp at hx; rcases hx with rfl | rfl | rfl <;> first | omega | decide)) (fun e x h => ⟨_, h.1, hC.trans (h.2.mono hC.size), h.2, rfl⟩)
    · refine ⟨rfl, fun v W ρ hC kc kf ks ki kd => ?_⟩
      have d7 : v 7 = .string (catT [(tupT o), ⟨#[32]⟩, (tupT b)]) := by first | exact kd _ (mem0 rfl) rfl | exact kd _ (mem1 rfl) rfl | exact kd _ (mem2 rfl) rfl | exact kd _ (mem3 rfl) rfl | exact kd _ (mem4 rfl) rfl | exact kd _ (mem5 rfl) rfl | exact kd _ (Array.mem_of_getElem? (i := 6) rfl) rfl | exact kd _ (Array.mem_of_getElem? (i := 7) rfl) rfl
      have t10 : ρ (.tmp 10) = .string (catT [(tupT o), ⟨#[32]⟩, (tupT b)]) := (ks 7 10 (by decide) rfl).trans d7
      simp [execOp, go_sem, kc, t10]
      exact ⟨hC, Below.refl _ _, rfl⟩
  intro vA_21 w1 hb1 hall
  have hvA_21 : vA_21 8 = .string (catT [(tupT o), ⟨#[32]⟩, (tupT b)]) := hall 8 (by decide)
  simp [upto, Act.put]
  rw [hvA_21]
  clear hall hvA_21
  have hGE1 := hidS (blk_later hGE0.out hb1)
  have hL1 := hidS (hL0.out.trans (hb1.mono hL0.out.size))
  clear hb1 hL0 hGE0
  go_wp2_with fail
  go_ret
  exact ⟨rfl, hL1.out⟩
theorem flow_cat (f : Fl) : catT [catT [tupT f.orig, ⟨#[32]⟩, tupT f.back], ⟨#[32]⟩, nameZ f.state, ⟨#[32]⟩, markF f] = flowT f := by
  unfold flowT
  apply ByteArray.ext
  apply Array.toList_inj.1
  simp [catT, catL]
set_option maxHeartbeats 8000000 in
theorem implFT_any (f : Fl) (w : World) (htab : Lib.TabIs Tryd.prog w "internal/strconv.uint64pow10" .u64 Lib.pow10Tab) : Calls Tryd.prog 12 #[.agg #[.int .i64 f.orig.proto, .int .i64 f.orig.src, .int .i64 f.orig.sport, .int .i64 f.orig.dst, .int .i64 f.orig.dport, .int .i64 f.orig.kind, .int .i64 f.back.proto, .int .i64 f.back.src, .int .i64 f.back.sport, .int .i64 f.back.dst, .int .i64 f.back.dport, .int .i64 f.back.kind, .int .i64 f.state, .bool f.seen, .bool f.sure, .int .i64 f.till, .int .i64 f.count]] w fun e w' => e = .returned (.string (flowAns f)) ∧ Below w.heap.size w w' := by
  have HT := hidS (fun W => talkOf_any f W)
  have HR := hidS (fun W => isRight_any f W)
  have HB := hidS (fun (h : rightF f = true) => right_back h)
  have HE := hidS (fun (h1 : rightT f.orig = true) (h2 : rightT f.back = true) W (h : Below w.heap.size w W) => endsText_any f.orig f.back W h1 h2 (tab_later htab h))
  have HN := hidS (fun W => implName_any f.state W)
  have HM := hidS (fun W => mark_any f W)
  have z0 : (catT [tupT f.orig, ⟨#[32]⟩, tupT f.back]).size ≤ 700 := by
    have z1 := tupT_size f.orig
    have z2 := tupT_size f.back
    rw [cat_size]; simp [catL]; omega
  have z3 := nameZ_size f.state
  have z4 := markF_size f
  clear htab
  have hGF0 : Hid ((w.alloc (.cells #[.int .i64 f.orig.proto, .int .i64 f.orig.src, .int .i64 f.orig.sport, .int .i64 f.orig.dst, .int .i64 f.orig.dport, .int .i64 f.orig.kind, .int .i64 f.back.proto, .int .i64 f.back.src, .int .i64 f.back.sport, .int .i64 f.back.dst, .int .i64 f.back.dport, .int .i64 f.back.kind, .int .i64 f.state, .bool f.seen, .bool f.sure, .int .i64 f.till, .int .i64 f.count] 35)).heap[w.heap.size]? = some (.cells #[.int .i64 f.orig.proto, .int .i64 f.orig.src, .int .i64 f.orig.sport, .int .i64 f.orig.dst, .int .i64 f.orig.dport, .int .i64 f.orig.kind, .int .i64 f.back.proto, .int .i64 f.back.src, .int .i64 f.back.sport, .int .i64 f.back.dst, .int .i64 f.back.dport, .int .i64 f.back.kind, .int .i64 f.state, .bool f.seen, .bool f.sure, .int .i64 f.till, .int .i64 f.count] 35)) := by
    show _ = _
    have := heap_newG w (.cells #[.int .i64 f.orig.proto, .int .i64 f.orig.src, .int .i64 f.orig.sport, .int .i64 f.orig.dst, .int .i64 f.orig.dport, .int .i64 f.orig.kind, .int .i64 f.back.proto, .int .i64 f.back.src, .int .i64 f.back.sport, .int .i64 f.back.dst, .int .i64 f.back.dport, .int .i64 f.back.kind, .int .i64 f.state, .bool f.seen, .bool f.sure, .int .i64 f.till, .int .i64 f.count] 35)
    simpa using this
  have hL0 := hidS ((Below.refl w.heap.size w).alloc (Nat.le_refl _) (.cells #[.int .i64 f.orig.proto, .int .i64 f.orig.src, .int .i64 f.orig.sport, .int .i64 f.orig.dst, .int .i64 f.orig.dport, .int .i64 f.orig.kind, .int .i64 f.back.proto, .int .i64 f.back.src, .int .i64 f.back.sport, .int .i64 f.back.dst, .int .i64 f.back.dport, .int .i64 f.back.kind, .int .i64 f.state, .bool f.seen, .bool f.sure, .int .i64 f.till, .int .i64 f.count] 35))
  go_enter Tryd.func12, Tryd.ntmps12
  go_upto_region 1 with fail
  generalize (w.alloc (.cells #[.int .i64 f.orig.proto, .int .i64 f.orig.src, .int .i64 f.orig.sport, .int .i64 f.orig.dst, .int .i64 f.orig.dport, .int .i64 f.orig.kind, .int .i64 f.back.proto, .int .i64 f.back.src, .int .i64 f.back.sport, .int .i64 f.back.dst, .int .i64 f.back.dport, .int .i64 f.back.kind, .int .i64 f.state, .bool f.seen, .bool f.sure, .int .i64 f.till, .int .i64 f.count] 35)) = w0 at hGF0 hL0 ⊢
  refine plain_struct 3 _ [.is (.agg #[.int .i64 f.orig.proto, .int .i64 f.orig.src, .int .i64 f.orig.sport, .int .i64 f.orig.dst, .int .i64 f.orig.dport, .int .i64 f.orig.kind, .int .i64 f.back.proto, .int .i64 f.back.src, .int .i64 f.back.sport, .int .i64 f.back.dst, .int .i64 f.back.dport, .int .i64 f.back.kind, .int .i64 f.state, .bool f.seen, .bool f.sure, .int .i64 f.till, .int .i64 f.count]), .is (.agg #[.int .i64 f.orig.proto, .int .i64 f.orig.src, .int .i64 f.orig.sport, .int .i64 f.orig.dst, .int .i64 f.orig.dport, .int .i64 f.orig.kind, .int .i64 f.back.proto, .int .i64 f.back.src, .int .i64 f.back.sport, .int .i64 f.back.dst, .int .i64 f.back.dport, .int .i64 f.back.kind, .int .i64 f.state, .bool f.seen, .bool f.sure, .int .i64 f.till, .int .i64 f.count]), .blk w0.heap.size #[.int .i64 0, .int .i64 0, .int .i64 0, .int .i64 0, .int .i64 0, .int .i64 0, .int .i64 0, .int .i64 0, .int .i64 0, .int .i64 0, .int .i64 0, .int .i64 0, .int .i64 0, .bool false, .bool false, .int .i64 0, .int .i64 0] 52] 2 1 3 5 52 52 #[.int .i64 0, .int .i64 0, .int .i64 0, .int .i64 0, .int .i64 0, .int .i64 0, .int .i64 0, .int .i64 0, .int .i64 0, .int .i64 0, .int .i64 0, .int .i64 0, .int .i64 0, .bool false, .bool false, .int .i64 0, .int .i64 0] #[.int .i64 f.orig.proto, .int .i64 f.orig.src, .int .i64 f.orig.sport, .int .i64 f.orig.dst, .int .i64 f.orig.dport, .int .i64 f.orig.kind, .int .i64 f.back.proto, .int .i64 f.back.src, .int .i64 f.back.sport, .int .i64 f.back.dst, .int .i64 f.back.dport, .int .i64 f.back.kind, .int .i64 f.state, .bool f.seen, .bool f.sure, .int .i64 f.till, .int .i64 f.count] rfl rfl rfl (by kernel_rfl) (by kernel_rfl) (by kernel_rfl) rfl rfl rfl rfl (by decide) (by decide) rfl rfl rfl (by first | kernel_rfl | simp [Value.oneCell']) (by kernel_rfl) ?stepsA_22 ?finA_22
  case stepsA_22 =>
    refine ⟨?_, ?_, ?_, trivial⟩
    · refine ⟨rfl, fun v W ρ hC kc kf ks ki kd => ?_⟩
      have t1 : ρ (.tmp 1) = .pointer (some ⟨w.heap.size, 0, none⟩) := ki 1 (by decide)
      simp only [execOp, t1, Sem.run_bind, loadAt_part (o := 0) [.int .i64 f.orig.proto, .int .i64 f.orig.src, .int .i64 f.orig.sport, .int .i64 f.orig.dst, .int .i64 f.orig.dport, .int .i64 f.orig.kind, .int .i64 f.back.proto, .int .i64 f.back.src, .int .i64 f.back.sport, .int .i64 f.back.dst, .int .i64 f.back.dport, .int .i64 f.back.kind, .int .i64 f.state, .bool f.seen, .bool f.sure, .int .i64 f.till, .int .i64 f.count] (blk_later hGF0.out hC) rfl Tryd.underlying35 rfl (by kernel_rfl), Result.andThen_ok, Sem.run_pure]
      exact ⟨hC, Below.refl _ _, rfl⟩
    · refine ⟨rfl, fun v W ρ hC kc kf ks ki kd => ?_⟩
      have d0 : v 0 = .agg #[.int .i64 f.orig.proto, .int .i64 f.orig.src, .int .i64 f.orig.sport, .int .i64 f.orig.dst, .int .i64 f.orig.dport, .int .i64 f.orig.kind, .int .i64 f.back.proto, .int .i64 f.back.src, .int .i64 f.back.sport, .int .i64 f.back.dst, .int .i64 f.back.dport, .int .i64 f.back.kind, .int .i64 f.state, .bool f.seen, .bool f.sure, .int .i64 f.till, .int .i64 f.count] := by first | exact kd _ (mem0 rfl) rfl | exact kd _ (mem1 rfl) rfl | exact kd _ (mem2 rfl) rfl | exact kd _ (mem3 rfl) rfl | exact kd _ (mem4 rfl) rfl | exact kd _ (mem5 rfl) rfl | exact kd _ (Array.mem_of_getElem? (i := 6) rfl) rfl | exact kd _ (Array.mem_of_getElem? (i := 7) rfl) rfl
      have t4 : ρ (.tmp 4) = .agg #[.int .i64 f.orig.proto, .int .i64 f.orig.src, .int .i64 f.orig.sport, .int .i64 f.orig.dst, .int .i64 f.orig.dport, .int .i64 f.orig.kind, .int .i64 f.back.proto, .int .i64 f.back.src, .int .i64 f.back.sport, .int .i64 f.back.dst, .int .i64 f.back.dport, .int .i64 f.back.kind, .int .i64 f.state, .bool f.seen, .bool f.sure, .int .i64 f.till, .int .i64 f.count] := (ks 0 4 (by decide) rfl).trans d0
      simp [execOp, go_sem, kc, t4, kf]
      exact Calls.mono (HT.out W) (fun e x h => ⟨_, h.1, hC.trans (h.2.mono hC.size), h.2, rfl⟩)
    · refine ⟨rfl, fun v W ρ hC kc kf ks ki kd => ?_⟩
      simp [execOp, go_sem]
      exact ⟨hC.alloc hC.size _, (Below.refl _ _).alloc (Nat.le_refl _) _, W.heap.size, rfl, hC.size, heap_newG _ _⟩
  intro vA_22 w1 gK hb hvB hnK hBk hall
  simp [upto, Act.put]
  rw [hvB]
  clear hall hvB
  have hGF1 := hidS (blk_later hGF0.out hb)
  have lKF := blk_lt hGF0.out
  have lwK := hL0.out.size
  have hL1 := hidS (hL0.out.trans (hb.mono hL0.out.size))
  have hGK1 := hidS hBk
  clear hb hBk hL0 hGF0
  go_wp2_with (first | refine wpList_load_blk 52 (.tmp 3) rfl rfl rfl hGK1.out Tryd.underlying52 rfl (by kernel_rfl) ?_)
  refine (HR.out _).mono ?_
  rintro _ w2 ⟨rfl, hb2⟩
  have hGF2 := hidS (blk_later hGF1.out hb2)
  have hGK2 := hidS (blk_later hGK1.out hb2)
  have hL2 := hidS (hL1.out.trans (hb2.mono hL1.out.size))
  clear hb2 hL1 hGF1 hGK1
  cases h0 : rightF f
  · have E : Hid (flowAns f = ⟨#[]⟩) := hidS (if_neg (by rw [h0]; simp))
    go_wp2_with fail
    go_ret
    exact ⟨by rw [E.out]; rfl, hL2.out⟩
  have E : Hid (flowAns f = flowT f) := hidS (if_pos h0)
  have HE2 := hidS (HE.out (HB.out h0).1 (HB.out h0).2)
  have hcat := hidS (flow_cat f)
  clear HE HB h0
  go_upto_region 4 with fail
  refine grow_kinds 11 [.is (.pointer (some ⟨gK, 0, none⟩)), .is (.agg #[.int .i64 f.orig.proto, .int .i64 f.orig.src, .int .i64 f.orig.sport, .int .i64 f.orig.dst, .int .i64 f.orig.dport, .int .i64 f.orig.kind, .int .i64 f.back.proto, .int .i64 f.back.src, .int .i64 f.back.sport, .int .i64 f.back.dst, .int .i64 f.back.dport, .int .i64 f.back.kind]), .is (.string (catT [tupT f.orig, ⟨#[32]⟩, tupT f.back])), .is (.pointer (some ⟨gK, 12, none⟩)), .is (.int .i64 f.state), .is (.string (nameZ f.state)), .is (.agg #[.int .i64 f.orig.proto, .int .i64 f.orig.src, .int .i64 f.orig.sport, .int .i64 f.orig.dst, .int .i64 f.orig.dport, .int .i64 f.orig.kind, .int .i64 f.back.proto, .int .i64 f.back.src, .int .i64 f.back.sport, .int .i64 f.back.dst, .int .i64 f.back.dport, .int .i64 f.back.kind, .int .i64 f.state, .bool f.seen, .bool f.sure, .int .i64 f.till, .int .i64 f.count]), .is (.string (markF f)), .vals [.string (catT [tupT f.orig, ⟨#[32]⟩, tupT f.back]), .string ⟨#[32]⟩, .string (nameZ f.state), .string ⟨#[32]⟩, .string (markF f)], .is (.string (catT [(catT [tupT f.orig, ⟨#[32]⟩, tupT f.back]), ⟨#[32]⟩, (nameZ f.state), ⟨#[32]⟩, (markF f)])), .is (.string (catT [(catT [tupT f.orig, ⟨#[32]⟩, tupT f.back]), ⟨#[32]⟩, (nameZ f.state), ⟨#[32]⟩, (markF f)]))] rfl (by kernel_rfl) (by kernel_rfl) ?stepsB_23 ?finB_23
  case stepsB_23 =>
    refine ⟨?_, ?_, ?_, ?_, ?_, ?_, ?_, ?_, ?_, ?_, ?_, trivial⟩
    · refine ⟨rfl, fun v W ρ hC kc kf ks ki kd => ?_⟩
      have t3 : ρ (.tmp 3) = .pointer (some ⟨gK, 0, none⟩) := ki 3 (by decide)
      simp [execOp, go_sem, kc, t3]
      exact ⟨hC, Below.refl _ _, rfl⟩
    · refine ⟨rfl, fun v W ρ hC kc kf ks ki kd => ?_⟩
      have d0 : v 0 = .pointer (some ⟨gK, 0, none⟩) := by first | exact kd _ (mem0 rfl) rfl | exact kd _ (mem1 rfl) rfl | exact kd _ (mem2 rfl) rfl | exact kd _ (mem3 rfl) rfl | exact kd _ (mem4 rfl) rfl | exact kd _ (mem5 rfl) rfl | exact kd _ (Array.mem_of_getElem? (i := 6) rfl) rfl | exact kd _ (Array.mem_of_getElem? (i := 7) rfl) rfl
      have t9 : ρ (.tmp 9) = .pointer (some ⟨gK, 0, none⟩) := (ks 0 9 (by decide) rfl).trans d0
      simp only [execOp, t9, Sem.run_bind, loadAt_part (o := 0) [.int .i64 f.orig.proto, .int .i64 f.orig.src, .int .i64 f.orig.sport, .int .i64 f.orig.dst, .int .i64 f.orig.dport, .int .i64 f.orig.kind, .int .i64 f.back.proto, .int .i64 f.back.src, .int .i64 f.back.sport, .int .i64 f.back.dst, .int .i64 f.back.dport, .int .i64 f.back.kind] (blk_later hGK2.out hC) rfl Tryd.underlying50 rfl (by kernel_rfl), Result.andThen_ok, Sem.run_pure]
      exact ⟨hC, Below.refl _ _, rfl⟩
    · refine ⟨rfl, fun v W ρ hC kc kf ks ki kd => ?_⟩
      have d1 : v 1 = .agg #[.int .i64 f.orig.proto, .int .i64 f.orig.src, .int .i64 f.orig.sport, .int .i64 f.orig.dst, .int .i64 f.orig.dport, .int .i64 f.orig.kind, .int .i64 f.back.proto, .int .i64 f.back.src, .int .i64 f.back.sport, .int .i64 f.back.dst, .int .i64 f.back.dport, .int .i64 f.back.kind] := by first | exact kd _ (mem0 rfl) rfl | exact kd _ (mem1 rfl) rfl | exact kd _ (mem2 rfl) rfl | exact kd _ (mem3 rfl) rfl | exact kd _ (mem4 rfl) rfl | exact kd _ (mem5 rfl) rfl | exact kd _ (Array.mem_of_getElem? (i := 6) rfl) rfl | exact kd _ (Array.mem_of_getElem? (i := 7) rfl) rfl
      have t10 : ρ (.tmp 10) = .agg #[.int .i64 f.orig.proto, .int .i64 f.orig.src, .int .i64 f.orig.sport, .int .i64 f.orig.dst, .int .i64 f.orig.dport, .int .i64 f.orig.kind, .int .i64 f.back.proto, .int .i64 f.back.src, .int .i64 f.back.sport, .int .i64 f.back.dst, .int .i64 f.back.dport, .int .i64 f.back.kind] := (ks 1 10 (by decide) rfl).trans d1
      simp [execOp, go_sem, kc, t10, kf]
      exact Calls.mono (HE2.out W (hL2.out.trans (hC.mono hL2.out.size))) (fun e x h => ⟨_, h.1, hC.trans (h.2.mono hC.size), h.2, rfl⟩)
    · refine ⟨rfl, fun v W ρ hC kc kf ks ki kd => ?_⟩
      have t3 : ρ (.tmp 3) = .pointer (some ⟨gK, 0, none⟩) := ki 3 (by decide)
      simp [execOp, go_sem, kc, t3]
      exact ⟨hC, Below.refl _ _, rfl⟩
    · refine ⟨rfl, fun v W ρ hC kc kf ks ki kd => ?_⟩
      have d3 : v 3 = .pointer (some ⟨gK, 12, none⟩) := by first | exact kd _ (mem0 rfl) rfl | exact kd _ (mem1 rfl) rfl | exact kd _ (mem2 rfl) rfl | exact kd _ (mem3 rfl) rfl | exact kd _ (mem4 rfl) rfl | exact kd _ (mem5 rfl) rfl | exact kd _ (Array.mem_of_getElem? (i := 6) rfl) rfl | exact kd _ (Array.mem_of_getElem? (i := 7) rfl) rfl
      have t12 : ρ (.tmp 12) = .pointer (some ⟨gK, 12, none⟩) := (ks 3 12 (by decide) rfl).trans d3
      have hg := blk_later hGK2.out hC
      have c12 := blk_cell hg 12
      simp at c12
      simp [execOp, go_sem, kc, t12, c12]
      exact ⟨hC, Below.refl _ _, rfl⟩
    · refine ⟨rfl, fun v W ρ hC kc kf ks ki kd => ?_⟩
      have d4 : v 4 = .int .i64 f.state := by first | exact kd _ (mem0 rfl) rfl | exact kd _ (mem1 rfl) rfl | exact kd _ (mem2 rfl) rfl | exact kd _ (mem3 rfl) rfl | exact kd _ (mem4 rfl) rfl | exact kd _ (mem5 rfl) rfl | exact kd _ (Array.mem_of_getElem? (i := 6) rfl) rfl | exact kd _ (Array.mem_of_getElem? (i := 7) rfl) rfl
      have t13 : ρ (.tmp 13) = .int .i64 f.state := (ks 4 13 (by decide) rfl).trans d4
      simp [execOp, go_sem, kc, t13, kf]
      exact Calls.mono (HN.out W) (fun e x h => ⟨_, h.1, hC.trans (h.2.mono hC.size), h.2, rfl⟩)
    · refine ⟨rfl, fun v W ρ hC kc kf ks ki kd => ?_⟩
      have t3 : ρ (.tmp 3) = .pointer (some ⟨gK, 0, none⟩) := ki 3 (by decide)
      simp only [execOp, t3, Sem.run_bind, loadAt_part (o := 0) [.int .i64 f.orig.proto, .int .i64 f.orig.src, .int .i64 f.orig.sport, .int .i64 f.orig.dst, .int .i64 f.orig.dport, .int .i64 f.orig.kind, .int .i64 f.back.proto, .int .i64 f.back.src, .int .i64 f.back.sport, .int .i64 f.back.dst, .int .i64 f.back.dport, .int .i64 f.back.kind, .int .i64 f.state, .bool f.seen, .bool f.sure, .int .i64 f.till, .int .i64 f.count] (blk_later hGK2.out hC) rfl Tryd.underlying52 rfl (by kernel_rfl), Result.andThen_ok, Sem.run_pure]
      exact ⟨hC, Below.refl _ _, rfl⟩
    · refine ⟨rfl, fun v W ρ hC kc kf ks ki kd => ?_⟩
      have d6 : v 6 = .agg #[.int .i64 f.orig.proto, .int .i64 f.orig.src, .int .i64 f.orig.sport, .int .i64 f.orig.dst, .int .i64 f.orig.dport, .int .i64 f.orig.kind, .int .i64 f.back.proto, .int .i64 f.back.src, .int .i64 f.back.sport, .int .i64 f.back.dst, .int .i64 f.back.dport, .int .i64 f.back.kind, .int .i64 f.state, .bool f.seen, .bool f.sure, .int .i64 f.till, .int .i64 f.count] := by first | exact kd _ (mem0 rfl) rfl | exact kd _ (mem1 rfl) rfl | exact kd _ (mem2 rfl) rfl | exact kd _ (mem3 rfl) rfl | exact kd _ (mem4 rfl) rfl | exact kd _ (mem5 rfl) rfl | exact kd _ (Array.mem_of_getElem? (i := 6) rfl) rfl | exact kd _ (Array.mem_of_getElem? (i := 7) rfl) rfl
      have t15 : ρ (.tmp 15) = .agg #[.int .i64 f.orig.proto, .int .i64 f.orig.src, .int .i64 f.orig.sport, .int .i64 f.orig.dst, .int .i64 f.orig.dport, .int .i64 f.orig.kind, .int .i64 f.back.proto, .int .i64 f.back.src, .int .i64 f.back.sport, .int .i64 f.back.dst, .int .i64 f.back.dport, .int .i64 f.back.kind, .int .i64 f.state, .bool f.seen, .bool f.sure, .int .i64 f.till, .int .i64 f.count] := (ks 6 15 (by decide) rfl).trans d6
      simp [execOp, go_sem, kc, t15, kf]
      exact Calls.mono (HM.out W) (fun e x h => ⟨_, h.1, hC.trans (h.2.mono hC.size), h.2, rfl⟩)
    · refine ⟨rfl, fun v W ρ hC kc kf ks ki kd => ?_⟩
      have d2 : v 2 = .string (catT [tupT f.orig, ⟨#[32]⟩, tupT f.back]) := by first | exact kd _ (mem0 rfl) rfl | exact kd _ (mem1 rfl) rfl | exact kd _ (mem2 rfl) rfl | exact kd _ (mem3 rfl) rfl | exact kd _ (mem4 rfl) rfl | exact kd _ (mem5 rfl) rfl | exact kd _ (Array.mem_of_getElem? (i := 6) rfl) rfl | exact kd _ (Array.mem_of_getElem? (i := 7) rfl) rfl
      have t11 : ρ (.tmp 11) = .string (catT [tupT f.orig, ⟨#[32]⟩, tupT f.back]) := (ks 2 11 (by decide) rfl).trans d2
      have d5 : v 5 = .string (nameZ f.state) := by first | exact kd _ (mem0 rfl) rfl | exact kd _ (mem1 rfl) rfl | exact kd _ (mem2 rfl) rfl | exact kd _ (mem3 rfl) rfl | exact kd _ (mem4 rfl) rfl | exact kd _ (mem5 rfl) rfl | exact kd _ (Array.mem_of_getElem? (i := 6) rfl) rfl | exact kd _ (Array.mem_of_getElem? (i := 7) rfl) rfl
      have t14 : ρ (.tmp 14) = .string (nameZ f.state) := (ks 5 14 (by decide) rfl).trans d5
      have d7 : v 7 = .string (markF f) := by first | exact kd _ (mem0 rfl) rfl | exact kd _ (mem1 rfl) rfl | exact kd _ (mem2 rfl) rfl | exact kd _ (mem3 rfl) rfl | exact kd _ (mem4 rfl) rfl | exact kd _ (mem5 rfl) rfl | exact kd _ (Array.mem_of_getElem? (i := 6) rfl) rfl | exact kd _ (Array.mem_of_getElem? (i := 7) rfl) rfl
      have t16 : ρ (.tmp 16) = .string (markF f) := (ks 7 16 (by decide) rfl).trans d7
      simp [execOp, go_sem, t11, t14, t16, kc]
      exact ⟨hC.alloc hC.size _, (Below.refl _ _).alloc (Nat.le_refl _) _, W.heap.size, rfl, vals_at [.string (catT [tupT f.orig, ⟨#[32]⟩, tupT f.back]), .string ⟨#[32]⟩, .string (nameZ f.state), .string ⟨#[32]⟩, .string (markF f)] _⟩
    · refine ⟨rfl, fun v W ρ hC kc kf ks ki kd => ?_⟩
      obtain ⟨B0, e0, hB0⟩ : ∃ B, v 8 = .slice (some ⟨B, 0, none⟩) 5 5 ∧ ValsAt B [.string (catT [tupT f.orig, ⟨#[32]⟩, tupT f.back]), .string ⟨#[32]⟩, .string (nameZ f.state), .string ⟨#[32]⟩, .string (markF f)] W := kd _ (Array.mem_of_getElem? (i := 0) rfl) rfl
      have t17 : ρ (.tmp 17) = v 8 := ks 8 17 (by decide) rfl
      rw [e0] at t17
      simp [execOp, go_sem, t17, kf]
      exact Calls.mono (joinTexts_any B0 [(catT [tupT f.orig, ⟨#[32]⟩, tupT f.back]), ⟨#[32]⟩, (nameZ f.state), ⟨#[32]⟩, (markF f)] _ (ValsAt.strs (ts := [(catT [tupT f.orig, ⟨#[32]⟩, tupT f.back]), ⟨#[32]⟩, (nameZ f.state), ⟨#[32]⟩, (markF f)]) hB0) hB0.1 (by simp) (by intro x hx; simp at hx; rcases hx with rfl | rfl | rfl | rfl | rfl <;> first | omega | decide)) (fun e x h => ⟨_, h.1, hC.trans (h.2.mono hC.size), h.2, rfl⟩)
    · refine ⟨rfl, fun v W ρ hC kc kf ks ki kd => ?_⟩
      have d9 : v 9 = .string (catT [(catT [tupT f.orig, ⟨#[32]⟩, tupT f.back]), ⟨#[32]⟩, (nameZ f.state), ⟨#[32]⟩, (markF f)]) := by first | exact kd _ (mem0 rfl) rfl | exact kd _ (mem1 rfl) rfl | exact kd _ (mem2 rfl) rfl | exact kd _ (mem3 rfl) rfl | exact kd _ (mem4 rfl) rfl | exact kd _ (mem5 rfl) rfl | exact kd _ (Array.mem_of_getElem? (i := 6) rfl) rfl | exact kd _ (Array.mem_of_getElem? (i := 7) rfl) rfl
      have t18 : ρ (.tmp 18) = .string (catT [(catT [tupT f.orig, ⟨#[32]⟩, tupT f.back]), ⟨#[32]⟩, (nameZ f.state), ⟨#[32]⟩, (markF f)]) := (ks 9 18 (by decide) rfl).trans d9
      simp [execOp, go_sem, kc, t18]
      exact ⟨hC, Below.refl _ _, rfl⟩
  intro vB_23 w3 hb3 hall
  have hvB_23 : vB_23 10 = .string (catT [(catT [tupT f.orig, ⟨#[32]⟩, tupT f.back]), ⟨#[32]⟩, (nameZ f.state), ⟨#[32]⟩, (markF f)]) := hall 10 (by decide)
  simp [upto, Act.put]
  rw [hvB_23]
  clear hall hvB_23
  have hGF3 := hidS (blk_later hGF2.out hb3)
  have hGK3 := hidS (blk_later hGK2.out hb3)
  have hL3 := hidS (hL2.out.trans (hb3.mono hL2.out.size))
  clear hb3 hL2 hGF2 hGK2
  go_wp2_with fail
  go_ret
  exact ⟨by rw [E.out, ← hcat.out]; rfl, hL3.out⟩
end Go.Proofs.YtbhemimhmkgfiaaDoor
