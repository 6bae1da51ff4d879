/- Proved here: a flow's text, as a plain function; spec.FlowText answers it; all old memory stays (no conditions but those that stand there). -/
import Derived.Test.YtbhemimhmkgfiaaDoorFlowS1
import Derived.Test.YtbhemimhmkgfiaaDoorTextSpec
import Derived.Test.YtbhemimhmkgfiaaDoorTcpNm
import Derived.Test.YtbhemimhmkgfiaaDoorGrow
namespace Go.Proofs.YtbhemimhmkgfiaaDoor
open Go.ChangeShapes Go.WideShapes Go.ChangeAt Go.RowKit
set_option linter.unusedVariables false
set_option linter.unusedSimpArgs false
set_option maxRecDepth 100000

def markF (f : Fl) : ByteArray := if f.sure then ⟨#[115, 117, 114, 101]⟩ else if f.seen then ⟨#[115, 101, 101, 110]⟩ else ⟨#[110, 101, 119]⟩
/-- the text of a right flow -/
def flowT (f : Fl) : ByteArray := tupT f.orig ++ ⟨#[32]⟩ ++ tupT f.back ++ ⟨#[32]⟩ ++ nameZ f.state ++ ⟨#[32]⟩ ++ markF f
def flowAns (f : Fl) : ByteArray := if rightF f = true then flowT f else ⟨#[]⟩
theorem markF_size (f : Fl) : (markF f).size ≤ 4 := by unfold markF; split; decide; split <;> decide
theorem nameZ_size (s : Int) : (nameZ s).size ≤ 4 := by unfold nameZ; (repeat' split) <;> decide
theorem markF_sure {f : Fl} (h : f.sure = true) : markF f = ⟨#[115, 117, 114, 101]⟩ := if_pos h
theorem markF_seen {f : Fl} (h : f.sure = false) (h2 : f.seen = true) : markF f = ⟨#[115, 101, 101, 110]⟩ := by unfold markF; rw [if_neg (by rw [h]; simp), if_pos h2]
theorem markF_new {f : Fl} (h : f.sure = false) (h2 : f.seen = false) : markF f = ⟨#[110, 101, 119]⟩ := by unfold markF; rw [if_neg (by rw [h]; simp), if_neg (by rw [h2]; simp)]
set_option maxHeartbeats 8000000 in
theorem specFT_any (f : Fl) (w : World) : Calls Tryd.prog 11 #[.agg #[.int .i64 f.orig.proto, .int .i64 f.orig.src, .int .i64 f.orig.sport, .int .i64 f.orig.dst, .int .i64 f.orig.dport, .int .i64 f.orig.kind, .int .i64 f.back.proto, .int .i64 f.back.src, .int .i64 f.back.sport, .int .i64 f.back.dst, .int .i64 f.back.dport, .int .i64 f.back.kind, .int .i64 f.state, .bool f.seen, .bool f.sure, .int .i64 f.till, .int .i64 f.count]] w fun e w' => e = .returned (.string (flowAns f)) ∧ Below w.heap.size w w' := by
  have HR := hidS (fun W => specFR_any f W)
  have HB := hidS (fun (h : rightF f = true) => right_back h)
  have HO := hidS (fun h W => l04Text_any f.orig W h)
  have HK := hidS (fun h W => l04Text_any f.back W h)
  have HN := hidS (fun W => specName_any f.state W)
  have z1 := tupT_size f.orig
  have z2 := tupT_size f.back
  have z3 := nameZ_size f.state
  have hGF0 : Hid ((w.alloc (.cells #[.int .i64 f.orig.proto, .int .i64 f.orig.src, .int .i64 f.orig.sport, .int .i64 f.orig.dst, .int .i64 f.orig.dport, .int .i64 f.orig.kind, .int .i64 f.back.proto, .int .i64 f.back.src, .int .i64 f.back.sport, .int .i64 f.back.dst, .int .i64 f.back.dport, .int .i64 f.back.kind, .int .i64 f.state, .bool f.seen, .bool f.sure, .int .i64 f.till, .int .i64 f.count] 35)).heap[w.heap.size]? = some (.cells #[.int .i64 f.orig.proto, .int .i64 f.orig.src, .int .i64 f.orig.sport, .int .i64 f.orig.dst, .int .i64 f.orig.dport, .int .i64 f.orig.kind, .int .i64 f.back.proto, .int .i64 f.back.src, .int .i64 f.back.sport, .int .i64 f.back.dst, .int .i64 f.back.dport, .int .i64 f.back.kind, .int .i64 f.state, .bool f.seen, .bool f.sure, .int .i64 f.till, .int .i64 f.count] 35)) := by
    show _ = _
    have := heap_newG w (.cells #[.int .i64 f.orig.proto, .int .i64 f.orig.src, .int .i64 f.orig.sport, .int .i64 f.orig.dst, .int .i64 f.orig.dport, .int .i64 f.orig.kind, .int .i64 f.back.proto, .int .i64 f.back.src, .int .i64 f.back.sport, .int .i64 f.back.dst, .int .i64 f.back.dport, .int .i64 f.back.kind, .int .i64 f.state, .bool f.seen, .bool f.sure, .int .i64 f.till, .int .i64 f.count] 35)
    simpa using this
  have hL0 := hidS ((Below.refl w.heap.size w).alloc (Nat.le_refl _) (.cells #[.int .i64 f.orig.proto, .int .i64 f.orig.src, .int .i64 f.orig.sport, .int .i64 f.orig.dst, .int .i64 f.orig.dport, .int .i64 f.orig.kind, .int .i64 f.back.proto, .int .i64 f.back.src, .int .i64 f.back.sport, .int .i64 f.back.dst, .int .i64 f.back.dport, .int .i64 f.back.kind, .int .i64 f.state, .bool f.seen, .bool f.sure, .int .i64 f.till, .int .i64 f.count] 35))
  go_enter Tryd.func11, Tryd.ntmps11
  go_upto_region 1 with fail
  generalize (w.alloc (.cells #[.int .i64 f.orig.proto, .int .i64 f.orig.src, .int .i64 f.orig.sport, .int .i64 f.orig.dst, .int .i64 f.orig.dport, .int .i64 f.orig.kind, .int .i64 f.back.proto, .int .i64 f.back.src, .int .i64 f.back.sport, .int .i64 f.back.dst, .int .i64 f.back.dport, .int .i64 f.back.kind, .int .i64 f.state, .bool f.seen, .bool f.sure, .int .i64 f.till, .int .i64 f.count] 35)) = w0 at hGF0 hL0 ⊢
  go_wp2_with (first | refine wpList_load_blk 35 (.tmp 1) rfl rfl rfl hGF0.out Tryd.underlying35 rfl (by kernel_rfl) ?_)
  refine (HR.out _).mono ?_
  rintro _ w1 ⟨rfl, hb1⟩
  have hGF1 := hidS (blk_later hGF0.out hb1)
  have hL1 := hidS (hL0.out.trans (hb1.mono hL0.out.size))
  clear hb1 hL0 hGF0
  cases h0 : rightF f
  · have E : Hid (flowAns f = ⟨#[]⟩) := hidS (if_neg (by rw [h0]; simp))
    go_wp2_with fail
    go_ret
    exact ⟨by rw [E.out]; rfl, hL1.out⟩
  have E : Hid (flowAns f = flowT f) := hidS (if_pos h0)
  have HO2 := hidS (HO.out (HB.out h0).1)
  have HK2 := hidS (HK.out (HB.out h0).2)
  clear HO HK HR HB h0
  cases hu : f.sure
  · cases hn : f.seen
    · have M := hidS (markF_new hu hn)
      have cF0 := blk_cell hGF1.out 0
      have cF1 := blk_cell hGF1.out 1
      have cF2 := blk_cell hGF1.out 2
      have cF3 := blk_cell hGF1.out 3
      have cF4 := blk_cell hGF1.out 4
      have cF5 := blk_cell hGF1.out 5
      have cF6 := blk_cell hGF1.out 6
      have cF7 := blk_cell hGF1.out 7
      have cF8 := blk_cell hGF1.out 8
      have cF9 := blk_cell hGF1.out 9
      have cF10 := blk_cell hGF1.out 10
      have cF11 := blk_cell hGF1.out 11
      have cF12 := blk_cell hGF1.out 12
      have cF13 := blk_cell hGF1.out 13
      have cF14 := blk_cell hGF1.out 14
      have cF15 := blk_cell hGF1.out 15
      have cF16 := blk_cell hGF1.out 16
      simp at cF0 cF1 cF2 cF3 cF4 cF5 cF6 cF7 cF8 cF9 cF10 cF11 cF12 cF13 cF14 cF15 cF16
      go_upto_region 8 with fail
      clear cF0 cF1 cF2 cF3 cF4 cF5 cF6 cF7 cF8 cF9 cF10 cF11 cF12 cF13 cF14 cF15 cF16
      refine grow_kinds 17 [.is (.pointer (some ⟨w.heap.size, 0, none⟩)), .is (.agg #[.int .i64 f.orig.proto, .int .i64 f.orig.src, .int .i64 f.orig.sport, .int .i64 f.orig.dst, .int .i64 f.orig.dport, .int .i64 f.orig.kind]), .is (.string (tupT f.orig)), .is (.string (tupT f.orig ++ ⟨#[32]⟩)), .is (.pointer (some ⟨w.heap.size, 6, none⟩)), .is (.agg #[.int .i64 f.back.proto, .int .i64 f.back.src, .int .i64 f.back.sport, .int .i64 f.back.dst, .int .i64 f.back.dport, .int .i64 f.back.kind]), .is (.string (tupT f.back)), .is (.string (tupT f.orig ++ ⟨#[32]⟩ ++ tupT f.back)), .is (.string (tupT f.orig ++ ⟨#[32]⟩ ++ tupT f.back ++ ⟨#[32]⟩)), .is (.pointer (some ⟨w.heap.size, 12, none⟩)), .is (.int .i64 f.state), .is (.string (nameZ f.state)), .is (.string (tupT f.orig ++ ⟨#[32]⟩ ++ tupT f.back ++ ⟨#[32]⟩ ++ nameZ f.state)), .is (.string (tupT f.orig ++ ⟨#[32]⟩ ++ tupT f.back ++ ⟨#[32]⟩ ++ nameZ f.state ++ ⟨#[32]⟩)), .is (.string (⟨#[110, 101, 119]⟩)), .is (.string (tupT f.orig ++ ⟨#[32]⟩ ++ tupT f.back ++ ⟨#[32]⟩ ++ nameZ f.state ++ ⟨#[32]⟩ ++ ⟨#[110, 101, 119]⟩)), .is (.string (tupT f.orig ++ ⟨#[32]⟩ ++ tupT f.back ++ ⟨#[32]⟩ ++ nameZ f.state ++ ⟨#[32]⟩ ++ ⟨#[110, 101, 119]⟩))] rfl (by kernel_rfl) (by kernel_rfl) ?stepsA_17 ?finA_17
      case stepsA_17 =>
        refine ⟨?_, ?_, ?_, ?_, ?_, ?_, ?_, ?_, ?_, ?_, ?_, ?_, ?_, ?_, ?_, ?_, ?_, trivial⟩
        · refine ⟨rfl, fun v W ρ hC kc kf ks ki kd => ?_⟩
          have t1 : ρ (.tmp 1) = .pointer (some ⟨w.heap.size, 0, none⟩) := ki 1 (by decide)
          simp [execOp, go_sem, kc, t1]
          exact ⟨hC, Below.refl _ _, rfl⟩
        · refine ⟨rfl, fun v W ρ hC kc kf ks ki kd => ?_⟩
          have d0 : v 0 = .pointer (some ⟨w.heap.size, 0, none⟩) := by first | exact kd _ (mem0 rfl) rfl | exact kd _ (mem1 rfl) rfl | exact kd _ (mem2 rfl) rfl | exact kd _ (mem3 rfl) rfl | exact kd _ (mem4 rfl) rfl | exact kd _ (mem5 rfl) rfl | exact kd _ (Array.mem_of_getElem? (i := 6) rfl) rfl | exact kd _ (Array.mem_of_getElem? (i := 7) rfl) rfl
          have t11 : ρ (.tmp 11) = .pointer (some ⟨w.heap.size, 0, none⟩) := (ks 0 11 (by decide) rfl).trans d0
          have hg := blk_later hGF1.out hC
          have c0 := blk_cell hg 0
          have c1 := blk_cell hg 1
          have c2 := blk_cell hg 2
          have c3 := blk_cell hg 3
          have c4 := blk_cell hg 4
          have c5 := blk_cell hg 5
          simp at c0 c1 c2 c3 c4 c5
          simp [execOp, go_sem, kc, t11, c0, c1, c2, c3, c4, c5]
          exact ⟨hC, Below.refl _ _, rfl⟩
        · refine ⟨rfl, fun v W ρ hC kc kf ks ki kd => ?_⟩
          have d1 : v 1 = .agg #[.int .i64 f.orig.proto, .int .i64 f.orig.src, .int .i64 f.orig.sport, .int .i64 f.orig.dst, .int .i64 f.orig.dport, .int .i64 f.orig.kind] := by first | exact kd _ (mem0 rfl) rfl | exact kd _ (mem1 rfl) rfl | exact kd _ (mem2 rfl) rfl | exact kd _ (mem3 rfl) rfl | exact kd _ (mem4 rfl) rfl | exact kd _ (mem5 rfl) rfl | exact kd _ (Array.mem_of_getElem? (i := 6) rfl) rfl | exact kd _ (Array.mem_of_getElem? (i := 7) rfl) rfl
          have t12 : ρ (.tmp 12) = .agg #[.int .i64 f.orig.proto, .int .i64 f.orig.src, .int .i64 f.orig.sport, .int .i64 f.orig.dst, .int .i64 f.orig.dport, .int .i64 f.orig.kind] := (ks 1 12 (by decide) rfl).trans d1
          simp [execOp, go_sem, kc, t12, kf]
          exact Calls.mono (HO2.out W) (fun e x h => ⟨_, h.1, hC.trans (h.2.mono hC.size), h.2, rfl⟩)
        · refine ⟨rfl, fun v W ρ hC kc kf ks ki kd => ?_⟩
          have d2 : v 2 = .string (tupT f.orig) := by first | exact kd _ (mem0 rfl) rfl | exact kd _ (mem1 rfl) rfl | exact kd _ (mem2 rfl) rfl | exact kd _ (mem3 rfl) rfl | exact kd _ (mem4 rfl) rfl | exact kd _ (mem5 rfl) rfl | exact kd _ (Array.mem_of_getElem? (i := 6) rfl) rfl | exact kd _ (Array.mem_of_getElem? (i := 7) rfl) rfl
          have t13 : ρ (.tmp 13) = .string (tupT f.orig) := (ks 2 13 (by decide) rfl).trans d2
          simp [execOp, go_sem, kc, t13]
          first | exact ⟨hC, Below.refl _ _, rfl⟩ | (rw [if_neg (by omega)]; exact ⟨hC, Below.refl _ _, rfl⟩)
        · refine ⟨rfl, fun v W ρ hC kc kf ks ki kd => ?_⟩
          have t1 : ρ (.tmp 1) = .pointer (some ⟨w.heap.size, 0, none⟩) := ki 1 (by decide)
          simp [execOp, go_sem, kc, t1]
          exact ⟨hC, Below.refl _ _, rfl⟩
        · refine ⟨rfl, fun v W ρ hC kc kf ks ki kd => ?_⟩
          have d4 : v 4 = .pointer (some ⟨w.heap.size, 6, none⟩) := by first | exact kd _ (mem0 rfl) rfl | exact kd _ (mem1 rfl) rfl | exact kd _ (mem2 rfl) rfl | exact kd _ (mem3 rfl) rfl | exact kd _ (mem4 rfl) rfl | exact kd _ (mem5 rfl) rfl | exact kd _ (Array.mem_of_getElem? (i := 6) rfl) rfl | exact kd _ (Array.mem_of_getElem? (i := 7) rfl) rfl
          have t15 : ρ (.tmp 15) = .pointer (some ⟨w.heap.size, 6, none⟩) := (ks 4 15 (by decide) rfl).trans d4
          have hg := blk_later hGF1.out hC
          have c6 := blk_cell hg 6
          have c7 := blk_cell hg 7
          have c8 := blk_cell hg 8
          have c9 := blk_cell hg 9
          have c10 := blk_cell hg 10
          have c11 := blk_cell hg 11
          simp at c6 c7 c8 c9 c10 c11
          simp [execOp, go_sem, kc, t15, c6, c7, c8, c9, c10, c11]
          exact ⟨hC, Below.refl _ _, rfl⟩
        · refine ⟨rfl, fun v W ρ hC kc kf ks ki kd => ?_⟩
          have d5 : v 5 = .agg #[.int .i64 f.back.proto, .int .i64 f.back.src, .int .i64 f.back.sport, .int .i64 f.back.dst, .int .i64 f.back.dport, .int .i64 f.back.kind] := by first | exact kd _ (mem0 rfl) rfl | exact kd _ (mem1 rfl) rfl | exact kd _ (mem2 rfl) rfl | exact kd _ (mem3 rfl) rfl | exact kd _ (mem4 rfl) rfl | exact kd _ (mem5 rfl) rfl | exact kd _ (Array.mem_of_getElem? (i := 6) rfl) rfl | exact kd _ (Array.mem_of_getElem? (i := 7) rfl) rfl
          have t16 : ρ (.tmp 16) = .agg #[.int .i64 f.back.proto, .int .i64 f.back.src, .int .i64 f.back.sport, .int .i64 f.back.dst, .int .i64 f.back.dport, .int .i64 f.back.kind] := (ks 5 16 (by decide) rfl).trans d5
          simp [execOp, go_sem, kc, t16, kf]
          exact Calls.mono (HK2.out W) (fun e x h => ⟨_, h.1, hC.trans (h.2.mono hC.size), h.2, rfl⟩)
        · refine ⟨rfl, fun v W ρ hC kc kf ks ki kd => ?_⟩
          have d3 : v 3 = .string (tupT f.orig ++ ⟨#[32]⟩) := by first | exact kd _ (mem0 rfl) rfl | exact kd _ (mem1 rfl) rfl | exact kd _ (mem2 rfl) rfl | exact kd _ (mem3 rfl) rfl | exact kd _ (mem4 rfl) rfl | exact kd _ (mem5 rfl) rfl | exact kd _ (Array.mem_of_getElem? (i := 6) rfl) rfl | exact kd _ (Array.mem_of_getElem? (i := 7) rfl) rfl
          have t14 : ρ (.tmp 14) = .string (tupT f.orig ++ ⟨#[32]⟩) := (ks 3 14 (by decide) rfl).trans d3
          have d6 : v 6 = .string (tupT f.back) := by first | exact kd _ (mem0 rfl) rfl | exact kd _ (mem1 rfl) rfl | exact kd _ (mem2 rfl) rfl | exact kd _ (mem3 rfl) rfl | exact kd _ (mem4 rfl) rfl | exact kd _ (mem5 rfl) rfl | exact kd _ (Array.mem_of_getElem? (i := 6) rfl) rfl | exact kd _ (Array.mem_of_getElem? (i := 7) rfl) rfl
          have t17 : ρ (.tmp 17) = .string (tupT f.back) := (ks 6 17 (by decide) rfl).trans d6
          simp [execOp, go_sem, kc, t14, t17]
          first | exact ⟨hC, Below.refl _ _, rfl⟩ | (rw [if_neg (by omega)]; exact ⟨hC, Below.refl _ _, rfl⟩)
        · refine ⟨rfl, fun v W ρ hC kc kf ks ki kd => ?_⟩
          have d7 : v 7 = .string (tupT f.orig ++ ⟨#[32]⟩ ++ tupT f.back) := by first | exact kd _ (mem0 rfl) rfl | exact kd _ (mem1 rfl) rfl | exact kd _ (mem2 rfl) rfl | exact kd _ (mem3 rfl) rfl | exact kd _ (mem4 rfl) rfl | exact kd _ (mem5 rfl) rfl | exact kd _ (Array.mem_of_getElem? (i := 6) rfl) rfl | exact kd _ (Array.mem_of_getElem? (i := 7) rfl) rfl
          have t18 : ρ (.tmp 18) = .string (tupT f.orig ++ ⟨#[32]⟩ ++ tupT f.back) := (ks 7 18 (by decide) rfl).trans d7
          simp [execOp, go_sem, kc, t18]
          first | exact ⟨hC, Below.refl _ _, rfl⟩ | (rw [if_neg (by omega)]; exact ⟨hC, Below.refl _ _, rfl⟩)
        · refine ⟨rfl, fun v W ρ hC kc kf ks ki kd => ?_⟩
          have t1 : ρ (.tmp 1) = .pointer (some ⟨w.heap.size, 0, none⟩) := ki 1 (by decide)
          simp [execOp, go_sem, kc, t1]
          exact ⟨hC, Below.refl _ _, rfl⟩
        · refine ⟨rfl, fun v W ρ hC kc kf ks ki kd => ?_⟩
          have d9 : v 9 = .pointer (some ⟨w.heap.size, 12, none⟩) := by first | exact kd _ (mem0 rfl) rfl | exact kd _ (mem1 rfl) rfl | exact kd _ (mem2 rfl) rfl | exact kd _ (mem3 rfl) rfl | exact kd _ (mem4 rfl) rfl | exact kd _ (mem5 rfl) rfl | exact kd _ (Array.mem_of_getElem? (i := 6) rfl) rfl | exact kd _ (Array.mem_of_getElem? (i := 7) rfl) rfl
          have t20 : ρ (.tmp 20) = .pointer (some ⟨w.heap.size, 12, none⟩) := (ks 9 20 (by decide) rfl).trans d9
          have hg := blk_later hGF1.out hC
          have c12 := blk_cell hg 12
          simp at c12
          simp [execOp, go_sem, kc, t20, c12]
          exact ⟨hC, Below.refl _ _, rfl⟩
        · refine ⟨rfl, fun v W ρ hC kc kf ks ki kd => ?_⟩
          have d10 : v 10 = .int .i64 f.state := by first | exact kd _ (mem0 rfl) rfl | exact kd _ (mem1 rfl) rfl | exact kd _ (mem2 rfl) rfl | exact kd _ (mem3 rfl) rfl | exact kd _ (mem4 rfl) rfl | exact kd _ (mem5 rfl) rfl | exact kd _ (Array.mem_of_getElem? (i := 6) rfl) rfl | exact kd _ (Array.mem_of_getElem? (i := 7) rfl) rfl
          have t21 : ρ (.tmp 21) = .int .i64 f.state := (ks 10 21 (by decide) rfl).trans d10
          simp [execOp, go_sem, kc, t21, kf]
          exact Calls.mono (HN.out W) (fun e x h => ⟨_, h.1, hC.trans (h.2.mono hC.size), h.2, rfl⟩)
        · refine ⟨rfl, fun v W ρ hC kc kf ks ki kd => ?_⟩
          have d8 : v 8 = .string (tupT f.orig ++ ⟨#[32]⟩ ++ tupT f.back ++ ⟨#[32]⟩) := by first | exact kd _ (mem0 rfl) rfl | exact kd _ (mem1 rfl) rfl | exact kd _ (mem2 rfl) rfl | exact kd _ (mem3 rfl) rfl | exact kd _ (mem4 rfl) rfl | exact kd _ (mem5 rfl) rfl | exact kd _ (Array.mem_of_getElem? (i := 6) rfl) rfl | exact kd _ (Array.mem_of_getElem? (i := 7) rfl) rfl
          have t19 : ρ (.tmp 19) = .string (tupT f.orig ++ ⟨#[32]⟩ ++ tupT f.back ++ ⟨#[32]⟩) := (ks 8 19 (by decide) rfl).trans d8
          have d11 : v 11 = .string (nameZ f.state) := by first | exact kd _ (mem0 rfl) rfl | exact kd _ (mem1 rfl) rfl | exact kd _ (mem2 rfl) rfl | exact kd _ (mem3 rfl) rfl | exact kd _ (mem4 rfl) rfl | exact kd _ (mem5 rfl) rfl | exact kd _ (Array.mem_of_getElem? (i := 6) rfl) rfl | exact kd _ (Array.mem_of_getElem? (i := 7) rfl) rfl
          have t22 : ρ (.tmp 22) = .string (nameZ f.state) := (ks 11 22 (by decide) rfl).trans d11
          simp [execOp, go_sem, kc, t19, t22]
          first | exact ⟨hC, Below.refl _ _, rfl⟩ | (rw [if_neg (by omega)]; exact ⟨hC, Below.refl _ _, rfl⟩)
        · refine ⟨rfl, fun v W ρ hC kc kf ks ki kd => ?_⟩
          have d12 : v 12 = .string (tupT f.orig ++ ⟨#[32]⟩ ++ tupT f.back ++ ⟨#[32]⟩ ++ nameZ f.state) := by first | exact kd _ (mem0 rfl) rfl | exact kd _ (mem1 rfl) rfl | exact kd _ (mem2 rfl) rfl | exact kd _ (mem3 rfl) rfl | exact kd _ (mem4 rfl) rfl | exact kd _ (mem5 rfl) rfl | exact kd _ (Array.mem_of_getElem? (i := 6) rfl) rfl | exact kd _ (Array.mem_of_getElem? (i := 7) rfl) rfl
          have t23 : ρ (.tmp 23) = .string (tupT f.orig ++ ⟨#[32]⟩ ++ tupT f.back ++ ⟨#[32]⟩ ++ nameZ f.state) := (ks 12 23 (by decide) rfl).trans d12
          simp [execOp, go_sem, kc, t23]
          first | exact ⟨hC, Below.refl _ _, rfl⟩ | (rw [if_neg (by omega)]; exact ⟨hC, Below.refl _ _, rfl⟩)
        · refine ⟨rfl, fun v W ρ hC kc kf ks ki kd => ?_⟩
          have t3 : ρ (.tmp 3) = .string (⟨#[110, 101, 119]⟩) := ki 3 (by decide)
          simp [execOp, go_sem, kc, t3]
          exact ⟨hC, Below.refl _ _, rfl⟩
        · refine ⟨rfl, fun v W ρ hC kc kf ks ki kd => ?_⟩
          have d13 : v 13 = .string (tupT f.orig ++ ⟨#[32]⟩ ++ tupT f.back ++ ⟨#[32]⟩ ++ nameZ f.state ++ ⟨#[32]⟩) := by first | exact kd _ (mem0 rfl) rfl | exact kd _ (mem1 rfl) rfl | exact kd _ (mem2 rfl) rfl | exact kd _ (mem3 rfl) rfl | exact kd _ (mem4 rfl) rfl | exact kd _ (mem5 rfl) rfl | exact kd _ (Array.mem_of_getElem? (i := 6) rfl) rfl | exact kd _ (Array.mem_of_getElem? (i := 7) rfl) rfl
          have t24 : ρ (.tmp 24) = .string (tupT f.orig ++ ⟨#[32]⟩ ++ tupT f.back ++ ⟨#[32]⟩ ++ nameZ f.state ++ ⟨#[32]⟩) := (ks 13 24 (by decide) rfl).trans d13
          have d14 : v 14 = .string (⟨#[110, 101, 119]⟩) := by first | exact kd _ (mem0 rfl) rfl | exact kd _ (mem1 rfl) rfl | exact kd _ (mem2 rfl) rfl | exact kd _ (mem3 rfl) rfl | exact kd _ (mem4 rfl) rfl | exact kd _ (mem5 rfl) rfl | exact kd _ (Array.mem_of_getElem? (i := 6) rfl) rfl | exact kd _ (Array.mem_of_getElem? (i := 7) rfl) rfl
          have t25 : ρ (.tmp 25) = .string (⟨#[110, 101, 119]⟩) := (ks 14 25 (by decide) rfl).trans d14
          simp [execOp, go_sem, kc, t24, t25]
          first | exact ⟨hC, Below.refl _ _, rfl⟩ | (rw [if_neg (by omega)]; exact ⟨hC, Below.refl _ _, rfl⟩)
        · refine ⟨rfl, fun v W ρ hC kc kf ks ki kd => ?_⟩
          have d15 : v 15 = .string (tupT f.orig ++ ⟨#[32]⟩ ++ tupT f.back ++ ⟨#[32]⟩ ++ nameZ f.state ++ ⟨#[32]⟩ ++ ⟨#[110, 101, 119]⟩) := by first | exact kd _ (mem0 rfl) rfl | exact kd _ (mem1 rfl) rfl | exact kd _ (mem2 rfl) rfl | exact kd _ (mem3 rfl) rfl | exact kd _ (mem4 rfl) rfl | exact kd _ (mem5 rfl) rfl | exact kd _ (Array.mem_of_getElem? (i := 6) rfl) rfl | exact kd _ (Array.mem_of_getElem? (i := 7) rfl) rfl
          have t26 : ρ (.tmp 26) = .string (tupT f.orig ++ ⟨#[32]⟩ ++ tupT f.back ++ ⟨#[32]⟩ ++ nameZ f.state ++ ⟨#[32]⟩ ++ ⟨#[110, 101, 119]⟩) := (ks 15 26 (by decide) rfl).trans d15
          simp [execOp, go_sem, kc, t26]
          exact ⟨hC, Below.refl _ _, rfl⟩
      intro vA_17 w2 hb2 hall
      have hvA_17 : vA_17 16 = .string (tupT f.orig ++ ⟨#[32]⟩ ++ tupT f.back ++ ⟨#[32]⟩ ++ nameZ f.state ++ ⟨#[32]⟩ ++ ⟨#[110, 101, 119]⟩) := hall 16 (by decide)
      simp [upto, Act.put]
      rw [hvA_17]
      clear hall hvA_17
      have hGF2 := hidS (blk_later hGF1.out hb2)
      have hL2 := hidS (hL1.out.trans (hb2.mono hL1.out.size))
      clear hb2 hL1 hGF1
      go_wp2_with fail
      go_ret
      exact ⟨by rw [E.out]; unfold flowT; rw [M.out]; rfl, hL2.out⟩
    have M := hidS (markF_seen hu hn)
    have cF0 := blk_cell hGF1.out 0
    have cF1 := blk_cell hGF1.out 1
    have cF2 := blk_cell hGF1.out 2
    have cF3 := blk_cell hGF1.out 3
    have cF4 := blk_cell hGF1.out 4
    have cF5 := blk_cell hGF1.out 5
    have cF6 := blk_cell hGF1.out 6
    have cF7 := blk_cell hGF1.out 7
    have cF8 := blk_cell hGF1.out 8
    have cF9 := blk_cell hGF1.out 9
    have cF10 := blk_cell hGF1.out 10
    have cF11 := blk_cell hGF1.out 11
    have cF12 := blk_cell hGF1.out 12
    have cF13 := blk_cell hGF1.out 13
    have cF14 := blk_cell hGF1.out 14
    have cF15 := blk_cell hGF1.out 15
    have cF16 := blk_cell hGF1.out 16
    simp at cF0 cF1 cF2 cF3 cF4 cF5 cF6 cF7 cF8 cF9 cF10 cF11 cF12 cF13 cF14 cF15 cF16
    go_upto_region 8 with fail
    clear cF0 cF1 cF2 cF3 cF4 cF5 cF6 cF7 cF8 cF9 cF10 cF11 cF12 cF13 cF14 cF15 cF16
    refine grow_kinds 17 [.is (.pointer (some ⟨w.heap.size, 0, none⟩)), .is (.agg #[.int .i64 f.orig.proto, .int .i64 f.orig.src, .int .i64 f.orig.sport, .int .i64 f.orig.dst, .int .i64 f.orig.dport, .int .i64 f.orig.kind]), .is (.string (tupT f.orig)), .is (.string (tupT f.orig ++ ⟨#[32]⟩)), .is (.pointer (some ⟨w.heap.size, 6, none⟩)), .is (.agg #[.int .i64 f.back.proto, .int .i64 f.back.src, .int .i64 f.back.sport, .int .i64 f.back.dst, .int .i64 f.back.dport, .int .i64 f.back.kind]), .is (.string (tupT f.back)), .is (.string (tupT f.orig ++ ⟨#[32]⟩ ++ tupT f.back)), .is (.string (tupT f.orig ++ ⟨#[32]⟩ ++ tupT f.back ++ ⟨#[32]⟩)), .is (.pointer (some ⟨w.heap.size, 12, none⟩)), .is (.int .i64 f.state), .is (.string (nameZ f.state)), .is (.string (tupT f.orig ++ ⟨#[32]⟩ ++ tupT f.back ++ ⟨#[32]⟩ ++ nameZ f.state)), .is (.string (tupT f.orig ++ ⟨#[32]⟩ ++ tupT f.back ++ ⟨#[32]⟩ ++ nameZ f.state ++ ⟨#[32]⟩)), .is (.string (⟨#[115, 101, 101, 110]⟩)), .is (.string (tupT f.orig ++ ⟨#[32]⟩ ++ tupT f.back ++ ⟨#[32]⟩ ++ nameZ f.state ++ ⟨#[32]⟩ ++ ⟨#[115, 101, 101, 110]⟩)), .is (.string (tupT f.orig ++ ⟨#[32]⟩ ++ tupT f.back ++ ⟨#[32]⟩ ++ nameZ f.state ++ ⟨#[32]⟩ ++ ⟨#[115, 101, 101, 110]⟩))] rfl (by kernel_rfl) (by kernel_rfl) ?stepsA_18 ?finA_18
    case stepsA_18 =>
      refine ⟨?_, ?_, ?_, ?_, ?_, ?_, ?_, ?_, ?_, ?_, ?_, ?_, ?_, ?_, ?_, ?_, ?_, trivial⟩
      · refine ⟨rfl, fun v W ρ hC kc kf ks ki kd => ?_⟩
        have t1 : ρ (.tmp 1) = .pointer (some ⟨w.heap.size, 0, none⟩) := ki 1 (by decide)
        simp [execOp, go_sem, kc, t1]
        exact ⟨hC, Below.refl _ _, rfl⟩
      · refine ⟨rfl, fun v W ρ hC kc kf ks ki kd => ?_⟩
        have d0 : v 0 = .pointer (some ⟨w.heap.size, 0, none⟩) := by first | exact kd _ (mem0 rfl) rfl | exact kd _ (mem1 rfl) rfl | exact kd _ (mem2 rfl) rfl | exact kd _ (mem3 rfl) rfl | exact kd _ (mem4 rfl) rfl | exact kd _ (mem5 rfl) rfl | exact kd _ (Array.mem_of_getElem? (i := 6) rfl) rfl | exact kd _ (Array.mem_of_getElem? (i := 7) rfl) rfl
        have t11 : ρ (.tmp 11) = .pointer (some ⟨w.heap.size, 0, none⟩) := (ks 0 11 (by decide) rfl).trans d0
        have hg := blk_later hGF1.out hC
        have c0 := blk_cell hg 0
        have c1 := blk_cell hg 1
        have c2 := blk_cell hg 2
        have c3 := blk_cell hg 3
        have c4 := blk_cell hg 4
        have c5 := blk_cell hg 5
        simp at c0 c1 c2 c3 c4 c5
        simp [execOp, go_sem, kc, t11, c0, c1, c2, c3, c4, c5]
        exact ⟨hC, Below.refl _ _, rfl⟩
      · refine ⟨rfl, fun v W ρ hC kc kf ks ki kd => ?_⟩
        have d1 : v 1 = .agg #[.int .i64 f.orig.proto, .int .i64 f.orig.src, .int .i64 f.orig.sport, .int .i64 f.orig.dst, .int .i64 f.orig.dport, .int .i64 f.orig.kind] := by first | exact kd _ (mem0 rfl) rfl | exact kd _ (mem1 rfl) rfl | exact kd _ (mem2 rfl) rfl | exact kd _ (mem3 rfl) rfl | exact kd _ (mem4 rfl) rfl | exact kd _ (mem5 rfl) rfl | exact kd _ (Array.mem_of_getElem? (i := 6) rfl) rfl | exact kd _ (Array.mem_of_getElem? (i := 7) rfl) rfl
        have t12 : ρ (.tmp 12) = .agg #[.int .i64 f.orig.proto, .int .i64 f.orig.src, .int .i64 f.orig.sport, .int .i64 f.orig.dst, .int .i64 f.orig.dport, .int .i64 f.orig.kind] := (ks 1 12 (by decide) rfl).trans d1
        simp [execOp, go_sem, kc, t12, kf]
        exact Calls.mono (HO2.out W) (fun e x h => ⟨_, h.1, hC.trans (h.2.mono hC.size), h.2, rfl⟩)
      · refine ⟨rfl, fun v W ρ hC kc kf ks ki kd => ?_⟩
        have d2 : v 2 = .string (tupT f.orig) := by first | exact kd _ (mem0 rfl) rfl | exact kd _ (mem1 rfl) rfl | exact kd _ (mem2 rfl) rfl | exact kd _ (mem3 rfl) rfl | exact kd _ (mem4 rfl) rfl | exact kd _ (mem5 rfl) rfl | exact kd _ (Array.mem_of_getElem? (i := 6) rfl) rfl | exact kd _ (Array.mem_of_getElem? (i := 7) rfl) rfl
        have t13 : ρ (.tmp 13) = .string (tupT f.orig) := (ks 2 13 (by decide) rfl).trans d2
        simp [execOp, go_sem, kc, t13]
        first | exact ⟨hC, Below.refl _ _, rfl⟩ | (rw [if_neg (by omega)]; exact ⟨hC, Below.refl _ _, rfl⟩)
      · refine ⟨rfl, fun v W ρ hC kc kf ks ki kd => ?_⟩
        have t1 : ρ (.tmp 1) = .pointer (some ⟨w.heap.size, 0, none⟩) := ki 1 (by decide)
        simp [execOp, go_sem, kc, t1]
        exact ⟨hC, Below.refl _ _, rfl⟩
      · refine ⟨rfl, fun v W ρ hC kc kf ks ki kd => ?_⟩
        have d4 : v 4 = .pointer (some ⟨w.heap.size, 6, none⟩) := by first | exact kd _ (mem0 rfl) rfl | exact kd _ (mem1 rfl) rfl | exact kd _ (mem2 rfl) rfl | exact kd _ (mem3 rfl) rfl | exact kd _ (mem4 rfl) rfl | exact kd _ (mem5 rfl) rfl | exact kd _ (Array.mem_of_getElem? (i := 6) rfl) rfl | exact kd _ (Array.mem_of_getElem? (i := 7) rfl) rfl
        have t15 : ρ (.tmp 15) = .pointer (some ⟨w.heap.size, 6, none⟩) := (ks 4 15 (by decide) rfl).trans d4
        have hg := blk_later hGF1.out hC
        have c6 := blk_cell hg 6
        have c7 := blk_cell hg 7
        have c8 := blk_cell hg 8
        have c9 := blk_cell hg 9
        have c10 := blk_cell hg 10
        have c11 := blk_cell hg 11
        simp at c6 c7 c8 c9 c10 c11
        simp [execOp, go_sem, kc, t15, c6, c7, c8, c9, c10, c11]
        exact ⟨hC, Below.refl _ _, rfl⟩
      · refine ⟨rfl, fun v W ρ hC kc kf ks ki kd => ?_⟩
        have d5 : v 5 = .agg #[.int .i64 f.back.proto, .int .i64 f.back.src, .int .i64 f.back.sport, .int .i64 f.back.dst, .int .i64 f.back.dport, .int .i64 f.back.kind] := by first | exact kd _ (mem0 rfl) rfl | exact kd _ (mem1 rfl) rfl | exact kd _ (mem2 rfl) rfl | exact kd _ (mem3 rfl) rfl | exact kd _ (mem4 rfl) rfl | exact kd _ (mem5 rfl) rfl | exact kd _ (Array.mem_of_getElem? (i := 6) rfl) rfl | exact kd _ (Array.mem_of_getElem? (i := 7) rfl) rfl
        have t16 : ρ (.tmp 16) = .agg #[.int .i64 f.back.proto, .int .i64 f.back.src, .int .i64 f.back.sport, .int .i64 f.back.dst, .int .i64 f.back.dport, .int .i64 f.back.kind] := (ks 5 16 (by decide) rfl).trans d5
        simp [execOp, go_sem, kc, t16, kf]
        exact Calls.mono (HK2.out W) (fun e x h => ⟨_, h.1, hC.trans (h.2.mono hC.size), h.2, rfl⟩)
      · refine ⟨rfl, fun v W ρ hC kc kf ks ki kd => ?_⟩
        have d3 : v 3 = .string (tupT f.orig ++ ⟨#[32]⟩) := by first | exact kd _ (mem0 rfl) rfl | exact kd _ (mem1 rfl) rfl | exact kd _ (mem2 rfl) rfl | exact kd _ (mem3 rfl) rfl | exact kd _ (mem4 rfl) rfl | exact kd _ (mem5 rfl) rfl | exact kd _ (Array.mem_of_getElem? (i := 6) rfl) rfl | exact kd _ (Array.mem_of_getElem? (i := 7) rfl) rfl
        have t14 : ρ (.tmp 14) = .string (tupT f.orig ++ ⟨#[32]⟩) := (ks 3 14 (by decide) rfl).trans d3
        have d6 : v 6 = .string (tupT f.back) := by first | exact kd _ (mem0 rfl) rfl | exact kd _ (mem1 rfl) rfl | exact kd _ (mem2 rfl) rfl | exact kd _ (mem3 rfl) rfl | exact kd _ (mem4 rfl) rfl | exact kd _ (mem5 rfl) rfl | exact kd _ (Array.mem_of_getElem? (i := 6) rfl) rfl | exact kd _ (Array.mem_of_getElem? (i := 7) rfl) rfl
        have t17 : ρ (.tmp 17) = .string (tupT f.back) := (ks 6 17 (by decide) rfl).trans d6
        simp [execOp, go_sem, kc, t14, t17]
        first | exact ⟨hC, Below.refl _ _, rfl⟩ | (rw [if_neg (by omega)]; exact ⟨hC, Below.refl _ _, rfl⟩)
      · refine ⟨rfl, fun v W ρ hC kc kf ks ki kd => ?_⟩
        have d7 : v 7 = .string (tupT f.orig ++ ⟨#[32]⟩ ++ tupT f.back) := by first | exact kd _ (mem0 rfl) rfl | exact kd _ (mem1 rfl) rfl | exact kd _ (mem2 rfl) rfl | exact kd _ (mem3 rfl) rfl | exact kd _ (mem4 rfl) rfl | exact kd _ (mem5 rfl) rfl | exact kd _ (Array.mem_of_getElem? (i := 6) rfl) rfl | exact kd _ (Array.mem_of_getElem? (i := 7) rfl) rfl
        have t18 : ρ (.tmp 18) = .string (tupT f.orig ++ ⟨#[32]⟩ ++ tupT f.back) := (ks 7 18 (by decide) rfl).trans d7
        simp [execOp, go_sem, kc, t18]
        first | exact ⟨hC, Below.refl _ _, rfl⟩ | (rw [if_neg (by omega)]; exact ⟨hC, Below.refl _ _, rfl⟩)
      · refine ⟨rfl, fun v W ρ hC kc kf ks ki kd => ?_⟩
        have t1 : ρ (.tmp 1) = .pointer (some ⟨w.heap.size, 0, none⟩) := ki 1 (by decide)
        simp [execOp, go_sem, kc, t1]
        exact ⟨hC, Below.refl _ _, rfl⟩
      · refine ⟨rfl, fun v W ρ hC kc kf ks ki kd => ?_⟩
        have d9 : v 9 = .pointer (some ⟨w.heap.size, 12, none⟩) := by first | exact kd _ (mem0 rfl) rfl | exact kd _ (mem1 rfl) rfl | exact kd _ (mem2 rfl) rfl | exact kd _ (mem3 rfl) rfl | exact kd _ (mem4 rfl) rfl | exact kd _ (mem5 rfl) rfl | exact kd _ (Array.mem_of_getElem? (i := 6) rfl) rfl | exact kd _ (Array.mem_of_getElem? (i := 7) rfl) rfl
        have t20 : ρ (.tmp 20) = .pointer (some ⟨w.heap.size, 12, none⟩) := (ks 9 20 (by decide) rfl).trans d9
        have hg := blk_later hGF1.out hC
        have c12 := blk_cell hg 12
        simp at c12
        simp [execOp, go_sem, kc, t20, c12]
        exact ⟨hC, Below.refl _ _, rfl⟩
      · refine ⟨rfl, fun v W ρ hC kc kf ks ki kd => ?_⟩
        have d10 : v 10 = .int .i64 f.state := by first | exact kd _ (mem0 rfl) rfl | exact kd _ (mem1 rfl) rfl | exact kd _ (mem2 rfl) rfl | exact kd _ (mem3 rfl) rfl | exact kd _ (mem4 rfl) rfl | exact kd _ (mem5 rfl) rfl | exact kd _ (Array.mem_of_getElem? (i := 6) rfl) rfl | exact kd _ (Array.mem_of_getElem? (i := 7) rfl) rfl
        have t21 : ρ (.tmp 21) = .int .i64 f.state := (ks 10 21 (by decide) rfl).trans d10
        simp [execOp, go_sem, kc, t21, kf]
        exact Calls.mono (HN.out W) (fun e x h => ⟨_, h.1, hC.trans (h.2.mono hC.size), h.2, rfl⟩)
      · refine ⟨rfl, fun v W ρ hC kc kf ks ki kd => ?_⟩
        have d8 : v 8 = .string (tupT f.orig ++ ⟨#[32]⟩ ++ tupT f.back ++ ⟨#[32]⟩) := by first | exact kd _ (mem0 rfl) rfl | exact kd _ (mem1 rfl) rfl | exact kd _ (mem2 rfl) rfl | exact kd _ (mem3 rfl) rfl | exact kd _ (mem4 rfl) rfl | exact kd _ (mem5 rfl) rfl | exact kd _ (Array.mem_of_getElem? (i := 6) rfl) rfl | exact kd _ (Array.mem_of_getElem? (i := 7) rfl) rfl
        have t19 : ρ (.tmp 19) = .string (tupT f.orig ++ ⟨#[32]⟩ ++ tupT f.back ++ ⟨#[32]⟩) := (ks 8 19 (by decide) rfl).trans d8
        have d11 : v 11 = .string (nameZ f.state) := by first | exact kd _ (mem0 rfl) rfl | exact kd _ (mem1 rfl) rfl | exact kd _ (mem2 rfl) rfl | exact kd _ (mem3 rfl) rfl | exact kd _ (mem4 rfl) rfl | exact kd _ (mem5 rfl) rfl | exact kd _ (Array.mem_of_getElem? (i := 6) rfl) rfl | exact kd _ (Array.mem_of_getElem? (i := 7) rfl) rfl
        have t22 : ρ (.tmp 22) = .string (nameZ f.state) := (ks 11 22 (by decide) rfl).trans d11
        simp [execOp, go_sem, kc, t19, t22]
        first | exact ⟨hC, Below.refl _ _, rfl⟩ | (rw [if_neg (by omega)]; exact ⟨hC, Below.refl _ _, rfl⟩)
      · refine ⟨rfl, fun v W ρ hC kc kf ks ki kd => ?_⟩
        have d12 : v 12 = .string (tupT f.orig ++ ⟨#[32]⟩ ++ tupT f.back ++ ⟨#[32]⟩ ++ nameZ f.state) := by first | exact kd _ (mem0 rfl) rfl | exact kd _ (mem1 rfl) rfl | exact kd _ (mem2 rfl) rfl | exact kd _ (mem3 rfl) rfl | exact kd _ (mem4 rfl) rfl | exact kd _ (mem5 rfl) rfl | exact kd _ (Array.mem_of_getElem? (i := 6) rfl) rfl | exact kd _ (Array.mem_of_getElem? (i := 7) rfl) rfl
        have t23 : ρ (.tmp 23) = .string (tupT f.orig ++ ⟨#[32]⟩ ++ tupT f.back ++ ⟨#[32]⟩ ++ nameZ f.state) := (ks 12 23 (by decide) rfl).trans d12
        simp [execOp, go_sem, kc, t23]
        first | exact ⟨hC, Below.refl _ _, rfl⟩ | (rw [if_neg (by omega)]; exact ⟨hC, Below.refl _ _, rfl⟩)
      · refine ⟨rfl, fun v W ρ hC kc kf ks ki kd => ?_⟩
        have t3 : ρ (.tmp 3) = .string (⟨#[115, 101, 101, 110]⟩) := ki 3 (by decide)
        simp [execOp, go_sem, kc, t3]
        exact ⟨hC, Below.refl _ _, rfl⟩
      · refine ⟨rfl, fun v W ρ hC kc kf ks ki kd => ?_⟩
        have d13 : v 13 = .string (tupT f.orig ++ ⟨#[32]⟩ ++ tupT f.back ++ ⟨#[32]⟩ ++ nameZ f.state ++ ⟨#[32]⟩) := by first | exact kd _ (mem0 rfl) rfl | exact kd _ (mem1 rfl) rfl | exact kd _ (mem2 rfl) rfl | exact kd _ (mem3 rfl) rfl | exact kd _ (mem4 rfl) rfl | exact kd _ (mem5 rfl) rfl | exact kd _ (Array.mem_of_getElem? (i := 6) rfl) rfl | exact kd _ (Array.mem_of_getElem? (i := 7) rfl) rfl
        have t24 : ρ (.tmp 24) = .string (tupT f.orig ++ ⟨#[32]⟩ ++ tupT f.back ++ ⟨#[32]⟩ ++ nameZ f.state ++ ⟨#[32]⟩) := (ks 13 24 (by decide) rfl).trans d13
        have d14 : v 14 = .string (⟨#[115, 101, 101, 110]⟩) := by first | exact kd _ (mem0 rfl) rfl | exact kd _ (mem1 rfl) rfl | exact kd _ (mem2 rfl) rfl | exact kd _ (mem3 rfl) rfl | exact kd _ (mem4 rfl) rfl | exact kd _ (mem5 rfl) rfl | exact kd _ (Array.mem_of_getElem? (i := 6) rfl) rfl | exact kd _ (Array.mem_of_getElem? (i := 7) rfl) rfl
        have t25 : ρ (.tmp 25) = .string (⟨#[115, 101, 101, 110]⟩) := (ks 14 25 (by decide) rfl).trans d14
        simp [execOp, go_sem, kc, t24, t25]
        first | exact ⟨hC, Below.refl _ _, rfl⟩ | (rw [if_neg (by omega)]; exact ⟨hC, Below.refl _ _, rfl⟩)
      · refine ⟨rfl, fun v W ρ hC kc kf ks ki kd => ?_⟩
        have d15 : v 15 = .string (tupT f.orig ++ ⟨#[32]⟩ ++ tupT f.back ++ ⟨#[32]⟩ ++ nameZ f.state ++ ⟨#[32]⟩ ++ ⟨#[115, 101, 101, 110]⟩) := by first | exact kd _ (mem0 rfl) rfl | exact kd _ (mem1 rfl) rfl | exact kd _ (mem2 rfl) rfl | exact kd _ (mem3 rfl) rfl | exact kd _ (mem4 rfl) rfl | exact kd _ (mem5 rfl) rfl | exact kd _ (Array.mem_of_getElem? (i := 6) rfl) rfl | exact kd _ (Array.mem_of_getElem? (i := 7) rfl) rfl
        have t26 : ρ (.tmp 26) = .string (tupT f.orig ++ ⟨#[32]⟩ ++ tupT f.back ++ ⟨#[32]⟩ ++ nameZ f.state ++ ⟨#[32]⟩ ++ ⟨#[115, 101, 101, 110]⟩) := (ks 15 26 (by decide) rfl).trans d15
        simp [execOp, go_sem, kc, t26]
        exact ⟨hC, Below.refl _ _, rfl⟩
    intro vA_18 w2 hb2 hall
    have hvA_18 : vA_18 16 = .string (tupT f.orig ++ ⟨#[32]⟩ ++ tupT f.back ++ ⟨#[32]⟩ ++ nameZ f.state ++ ⟨#[32]⟩ ++ ⟨#[115, 101, 101, 110]⟩) := hall 16 (by decide)
    simp [upto, Act.put]
    rw [hvA_18]
    clear hall hvA_18
    have hGF2 := hidS (blk_later hGF1.out hb2)
    have hL2 := hidS (hL1.out.trans (hb2.mono hL1.out.size))
    clear hb2 hL1 hGF1
    go_wp2_with fail
    go_ret
    exact ⟨by rw [E.out]; unfold flowT; rw [M.out]; rfl, hL2.out⟩
  cases hn : f.seen
  · have M := hidS (markF_sure hu)
    have cF0 := blk_cell hGF1.out 0
    have cF1 := blk_cell hGF1.out 1
    have cF2 := blk_cell hGF1.out 2
    have cF3 := blk_cell hGF1.out 3
    have cF4 := blk_cell hGF1.out 4
    have cF5 := blk_cell hGF1.out 5
    have cF6 := blk_cell hGF1.out 6
    have cF7 := blk_cell hGF1.out 7
    have cF8 := blk_cell hGF1.out 8
    have cF9 := blk_cell hGF1.out 9
    have cF10 := blk_cell hGF1.out 10
    have cF11 := blk_cell hGF1.out 11
    have cF12 := blk_cell hGF1.out 12
    have cF13 := blk_cell hGF1.out 13
    have cF14 := blk_cell hGF1.out 14
    have cF15 := blk_cell hGF1.out 15
    have cF16 := blk_cell hGF1.out 16
    simp at cF0 cF1 cF2 cF3 cF4 cF5 cF6 cF7 cF8 cF9 cF10 cF11 cF12 cF13 cF14 cF15 cF16
    go_upto_region 8 with fail
    clear cF0 cF1 cF2 cF3 cF4 cF5 cF6 cF7 cF8 cF9 cF10 cF11 cF12 cF13 cF14 cF15 cF16
    refine grow_kinds 17 [.is (.pointer (some ⟨w.heap.size, 0, none⟩)), .is (.agg #[.int .i64 f.orig.proto, .int .i64 f.orig.src, .int .i64 f.orig.sport, .int .i64 f.orig.dst, .int .i64 f.orig.dport, .int .i64 f.orig.kind]), .is (.string (tupT f.orig)), .is (.string (tupT f.orig ++ ⟨#[32]⟩)), .is (.pointer (some ⟨w.heap.size, 6, none⟩)), .is (.agg #[.int .i64 f.back.proto, .int .i64 f.back.src, .int .i64 f.back.sport, .int .i64 f.back.dst, .int .i64 f.back.dport, .int .i64 f.back.kind]), .is (.string (tupT f.back)), .is (.string (tupT f.orig ++ ⟨#[32]⟩ ++ tupT f.back)), .is (.string (tupT f.orig ++ ⟨#[32]⟩ ++ tupT f.back ++ ⟨#[32]⟩)), .is (.pointer (some ⟨w.heap.size, 12, none⟩)), .is (.int .i64 f.state), .is (.string (nameZ f.state)), .is (.string (tupT f.orig ++ ⟨#[32]⟩ ++ tupT f.back ++ ⟨#[32]⟩ ++ nameZ f.state)), .is (.string (tupT f.orig ++ ⟨#[32]⟩ ++ tupT f.back ++ ⟨#[32]⟩ ++ nameZ f.state ++ ⟨#[32]⟩)), .is (.string (⟨#[115, 117, 114, 101]⟩)), .is (.string (tupT f.orig ++ ⟨#[32]⟩ ++ tupT f.back ++ ⟨#[32]⟩ ++ nameZ f.state ++ ⟨#[32]⟩ ++ ⟨#[115, 117, 114, 101]⟩)), .is (.string (tupT f.orig ++ ⟨#[32]⟩ ++ tupT f.back ++ ⟨#[32]⟩ ++ nameZ f.state ++ ⟨#[32]⟩ ++ ⟨#[115, 117, 114, 101]⟩))] rfl (by kernel_rfl) (by kernel_rfl) ?stepsA_19 ?finA_19
    case stepsA_19 =>
      refine ⟨?_, ?_, ?_, ?_, ?_, ?_, ?_, ?_, ?_, ?_, ?_, ?_, ?_, ?_, ?_, ?_, ?_, trivial⟩
      · refine ⟨rfl, fun v W ρ hC kc kf ks ki kd => ?_⟩
        have t1 : ρ (.tmp 1) = .pointer (some ⟨w.heap.size, 0, none⟩) := ki 1 (by decide)
        simp [execOp, go_sem, kc, t1]
        exact ⟨hC, Below.refl _ _, rfl⟩
      · refine ⟨rfl, fun v W ρ hC kc kf ks ki kd => ?_⟩
        have d0 : v 0 = .pointer (some ⟨w.heap.size, 0, none⟩) := by first | exact kd _ (mem0 rfl) rfl | exact kd _ (mem1 rfl) rfl | exact kd _ (mem2 rfl) rfl | exact kd _ (mem3 rfl) rfl | exact kd _ (mem4 rfl) rfl | exact kd _ (mem5 rfl) rfl | exact kd _ (Array.mem_of_getElem? (i := 6) rfl) rfl | exact kd _ (Array.mem_of_getElem? (i := 7) rfl) rfl
        have t11 : ρ (.tmp 11) = .pointer (some ⟨w.heap.size, 0, none⟩) := (ks 0 11 (by decide) rfl).trans d0
        have hg := blk_later hGF1.out hC
        have c0 := blk_cell hg 0
        have c1 := blk_cell hg 1
        have c2 := blk_cell hg 2
        have c3 := blk_cell hg 3
        have c4 := blk_cell hg 4
        have c5 := blk_cell hg 5
        simp at c0 c1 c2 c3 c4 c5
        simp [execOp, go_sem, kc, t11, c0, c1, c2, c3, c4, c5]
        exact ⟨hC, Below.refl _ _, rfl⟩
      · refine ⟨rfl, fun v W ρ hC kc kf ks ki kd => ?_⟩
        have d1 : v 1 = .agg #[.int .i64 f.orig.proto, .int .i64 f.orig.src, .int .i64 f.orig.sport, .int .i64 f.orig.dst, .int .i64 f.orig.dport, .int .i64 f.orig.kind] := by first | exact kd _ (mem0 rfl) rfl | exact kd _ (mem1 rfl) rfl | exact kd _ (mem2 rfl) rfl | exact kd _ (mem3 rfl) rfl | exact kd _ (mem4 rfl) rfl | exact kd _ (mem5 rfl) rfl | exact kd _ (Array.mem_of_getElem? (i := 6) rfl) rfl | exact kd _ (Array.mem_of_getElem? (i := 7) rfl) rfl
        have t12 : ρ (.tmp 12) = .agg #[.int .i64 f.orig.proto, .int .i64 f.orig.src, .int .i64 f.orig.sport, .int .i64 f.orig.dst, .int .i64 f.orig.dport, .int .i64 f.orig.kind] := (ks 1 12 (by decide) rfl).trans d1
        simp [execOp, go_sem, kc, t12, kf]
        exact Calls.mono (HO2.out W) (fun e x h => ⟨_, h.1, hC.trans (h.2.mono hC.size), h.2, rfl⟩)
      · refine ⟨rfl, fun v W ρ hC kc kf ks ki kd => ?_⟩
        have d2 : v 2 = .string (tupT f.orig) := by first | exact kd _ (mem0 rfl) rfl | exact kd _ (mem1 rfl) rfl | exact kd _ (mem2 rfl) rfl | exact kd _ (mem3 rfl) rfl | exact kd _ (mem4 rfl) rfl | exact kd _ (mem5 rfl) rfl | exact kd _ (Array.mem_of_getElem? (i := 6) rfl) rfl | exact kd _ (Array.mem_of_getElem? (i := 7) rfl) rfl
        have t13 : ρ (.tmp 13) = .string (tupT f.orig) := (ks 2 13 (by decide) rfl).trans d2
        simp [execOp, go_sem, kc, t13]
        first | exact ⟨hC, Below.refl _ _, rfl⟩ | (rw [if_neg (by omega)]; exact ⟨hC, Below.refl _ _, rfl⟩)
      · refine ⟨rfl, fun v W ρ hC kc kf ks ki kd => ?_⟩
        have t1 : ρ (.tmp 1) = .pointer (some ⟨w.heap.size, 0, none⟩) := ki 1 (by decide)
        simp [execOp, go_sem, kc, t1]
        exact ⟨hC, Below.refl _ _, rfl⟩
      · refine ⟨rfl, fun v W ρ hC kc kf ks ki kd => ?_⟩
        have d4 : v 4 = .pointer (some ⟨w.heap.size, 6, none⟩) := by first | exact kd _ (mem0 rfl) rfl | exact kd _ (mem1 rfl) rfl | exact kd _ (mem2 rfl) rfl | exact kd _ (mem3 rfl) rfl | exact kd _ (mem4 rfl) rfl | exact kd _ (mem5 rfl) rfl | exact kd _ (Array.mem_of_getElem? (i := 6) rfl) rfl | exact kd _ (Array.mem_of_getElem? (i := 7) rfl) rfl
        have t15 : ρ (.tmp 15) = .pointer (some ⟨w.heap.size, 6, none⟩) := (ks 4 15 (by decide) rfl).trans d4
        have hg := blk_later hGF1.out hC
        have c6 := blk_cell hg 6
        have c7 := blk_cell hg 7
        have c8 := blk_cell hg 8
        have c9 := blk_cell hg 9
        have c10 := blk_cell hg 10
        have c11 := blk_cell hg 11
        simp at c6 c7 c8 c9 c10 c11
        simp [execOp, go_sem, kc, t15, c6, c7, c8, c9, c10, c11]
        exact ⟨hC, Below.refl _ _, rfl⟩
      · refine ⟨rfl, fun v W ρ hC kc kf ks ki kd => ?_⟩
        have d5 : v 5 = .agg #[.int .i64 f.back.proto, .int .i64 f.back.src, .int .i64 f.back.sport, .int .i64 f.back.dst, .int .i64 f.back.dport, .int .i64 f.back.kind] := by first | exact kd _ (mem0 rfl) rfl | exact kd _ (mem1 rfl) rfl | exact kd _ (mem2 rfl) rfl | exact kd _ (mem3 rfl) rfl | exact kd _ (mem4 rfl) rfl | exact kd _ (mem5 rfl) rfl | exact kd _ (Array.mem_of_getElem? (i := 6) rfl) rfl | exact kd _ (Array.mem_of_getElem? (i := 7) rfl) rfl
        have t16 : ρ (.tmp 16) = .agg #[.int .i64 f.back.proto, .int .i64 f.back.src, .int .i64 f.back.sport, .int .i64 f.back.dst, .int .i64 f.back.dport, .int .i64 f.back.kind] := (ks 5 16 (by decide) rfl).trans d5
        simp [execOp, go_sem, kc, t16, kf]
        exact Calls.mono (HK2.out W) (fun e x h => ⟨_, h.1, hC.trans (h.2.mono hC.size), h.2, rfl⟩)
      · refine ⟨rfl, fun v W ρ hC kc kf ks ki kd => ?_⟩
        have d3 : v 3 = .string (tupT f.orig ++ ⟨#[32]⟩) := by first | exact kd _ (mem0 rfl) rfl | exact kd _ (mem1 rfl) rfl | exact kd _ (mem2 rfl) rfl | exact kd _ (mem3 rfl) rfl | exact kd _ (mem4 rfl) rfl | exact kd _ (mem5 rfl) rfl | exact kd _ (Array.mem_of_getElem? (i := 6) rfl) rfl | exact kd _ (Array.mem_of_getElem? (i := 7) rfl) rfl
        have t14 : ρ (.tmp 14) = .string (tupT f.orig ++ ⟨#[32]⟩) := (ks 3 14 (by decide) rfl).trans d3
        have d6 : v 6 = .string (tupT f.back) := by first | exact kd _ (mem0 rfl) rfl | exact kd _ (mem1 rfl) rfl | exact kd _ (mem2 rfl) rfl | exact kd _ (mem3 rfl) rfl | exact kd _ (mem4 rfl) rfl | exact kd _ (mem5 rfl) rfl | exact kd _ (Array.mem_of_getElem? (i := 6) rfl) rfl | exact kd _ (Array.mem_of_getElem? (i := 7) rfl) rfl
        have t17 : ρ (.tmp 17) = .string (tupT f.back) := (ks 6 17 (by decide) rfl).trans d6
        simp [execOp, go_sem, kc, t14, t17]
        first | exact ⟨hC, Below.refl _ _, rfl⟩ | (rw [if_neg (by omega)]; exact ⟨hC, Below.refl _ _, rfl⟩)
      · refine ⟨rfl, fun v W ρ hC kc kf ks ki kd => ?_⟩
        have d7 : v 7 = .string (tupT f.orig ++ ⟨#[32]⟩ ++ tupT f.back) := by first | exact kd _ (mem0 rfl) rfl | exact kd _ (mem1 rfl) rfl | exact kd _ (mem2 rfl) rfl | exact kd _ (mem3 rfl) rfl | exact kd _ (mem4 rfl) rfl | exact kd _ (mem5 rfl) rfl | exact kd _ (Array.mem_of_getElem? (i := 6) rfl) rfl | exact kd _ (Array.mem_of_getElem? (i := 7) rfl) rfl
        have t18 : ρ (.tmp 18) = .string (tupT f.orig ++ ⟨#[32]⟩ ++ tupT f.back) := (ks 7 18 (by decide) rfl).trans d7
        simp [execOp, go_sem, kc, t18]
        first | exact ⟨hC, Below.refl _ _, rfl⟩ | (rw [if_neg (by omega)]; exact ⟨hC, Below.refl _ _, rfl⟩)
      · refine ⟨rfl, fun v W ρ hC kc kf ks ki kd => ?_⟩
        have t1 : ρ (.tmp 1) = .pointer (some ⟨w.heap.size, 0, none⟩) := ki 1 (by decide)
        simp [execOp, go_sem, kc, t1]
        exact ⟨hC, Below.refl _ _, rfl⟩
      · refine ⟨rfl, fun v W ρ hC kc kf ks ki kd => ?_⟩
        have d9 : v 9 = .pointer (some ⟨w.heap.size, 12, none⟩) := by first | exact kd _ (mem0 rfl) rfl | exact kd _ (mem1 rfl) rfl | exact kd _ (mem2 rfl) rfl | exact kd _ (mem3 rfl) rfl | exact kd _ (mem4 rfl) rfl | exact kd _ (mem5 rfl) rfl | exact kd _ (Array.mem_of_getElem? (i := 6) rfl) rfl | exact kd _ (Array.mem_of_getElem? (i := 7) rfl) rfl
        have t20 : ρ (.tmp 20) = .pointer (some ⟨w.heap.size, 12, none⟩) := (ks 9 20 (by decide) rfl).trans d9
        have hg := blk_later hGF1.out hC
        have c12 := blk_cell hg 12
        simp at c12
        simp [execOp, go_sem, kc, t20, c12]
        exact ⟨hC, Below.refl _ _, rfl⟩
      · refine ⟨rfl, fun v W ρ hC kc kf ks ki kd => ?_⟩
        have d10 : v 10 = .int .i64 f.state := by first | exact kd _ (mem0 rfl) rfl | exact kd _ (mem1 rfl) rfl | exact kd _ (mem2 rfl) rfl | exact kd _ (mem3 rfl) rfl | exact kd _ (mem4 rfl) rfl | exact kd _ (mem5 rfl) rfl | exact kd _ (Array.mem_of_getElem? (i := 6) rfl) rfl | exact kd _ (Array.mem_of_getElem? (i := 7) rfl) rfl
        have t21 : ρ (.tmp 21) = .int .i64 f.state := (ks 10 21 (by decide) rfl).trans d10
        simp [execOp, go_sem, kc, t21, kf]
        exact Calls.mono (HN.out W) (fun e x h => ⟨_, h.1, hC.trans (h.2.mono hC.size), h.2, rfl⟩)
      · refine ⟨rfl, fun v W ρ hC kc kf ks ki kd => ?_⟩
        have d8 : v 8 = .string (tupT f.orig ++ ⟨#[32]⟩ ++ tupT f.back ++ ⟨#[32]⟩) := by first | exact kd _ (mem0 rfl) rfl | exact kd _ (mem1 rfl) rfl | exact kd _ (mem2 rfl) rfl | exact kd _ (mem3 rfl) rfl | exact kd _ (mem4 rfl) rfl | exact kd _ (mem5 rfl) rfl | exact kd _ (Array.mem_of_getElem? (i := 6) rfl) rfl | exact kd _ (Array.mem_of_getElem? (i := 7) rfl) rfl
        have t19 : ρ (.tmp 19) = .string (tupT f.orig ++ ⟨#[32]⟩ ++ tupT f.back ++ ⟨#[32]⟩) := (ks 8 19 (by decide) rfl).trans d8
        have d11 : v 11 = .string (nameZ f.state) := by first | exact kd _ (mem0 rfl) rfl | exact kd _ (mem1 rfl) rfl | exact kd _ (mem2 rfl) rfl | exact kd _ (mem3 rfl) rfl | exact kd _ (mem4 rfl) rfl | exact kd _ (mem5 rfl) rfl | exact kd _ (Array.mem_of_getElem? (i := 6) rfl) rfl | exact kd _ (Array.mem_of_getElem? (i := 7) rfl) rfl
        have t22 : ρ (.tmp 22) = .string (nameZ f.state) := (ks 11 22 (by decide) rfl).trans d11
        simp [execOp, go_sem, kc, t19, t22]
        first | exact ⟨hC, Below.refl _ _, rfl⟩ | (rw [if_neg (by omega)]; exact ⟨hC, Below.refl _ _, rfl⟩)
      · refine ⟨rfl, fun v W ρ hC kc kf ks ki kd => ?_⟩
        have d12 : v 12 = .string (tupT f.orig ++ ⟨#[32]⟩ ++ tupT f.back ++ ⟨#[32]⟩ ++ nameZ f.state) := by first | exact kd _ (mem0 rfl) rfl | exact kd _ (mem1 rfl) rfl | exact kd _ (mem2 rfl) rfl | exact kd _ (mem3 rfl) rfl | exact kd _ (mem4 rfl) rfl | exact kd _ (mem5 rfl) rfl | exact kd _ (Array.mem_of_getElem? (i := 6) rfl) rfl | exact kd _ (Array.mem_of_getElem? (i := 7) rfl) rfl
        have t23 : ρ (.tmp 23) = .string (tupT f.orig ++ ⟨#[32]⟩ ++ tupT f.back ++ ⟨#[32]⟩ ++ nameZ f.state) := (ks 12 23 (by decide) rfl).trans d12
        simp [execOp, go_sem, kc, t23]
        first | exact ⟨hC, Below.refl _ _, rfl⟩ | (rw [if_neg (by omega)]; exact ⟨hC, Below.refl _ _, rfl⟩)
      · refine ⟨rfl, fun v W ρ hC kc kf ks ki kd => ?_⟩
        have t3 : ρ (.tmp 3) = .string (⟨#[115, 117, 114, 101]⟩) := ki 3 (by decide)
        simp [execOp, go_sem, kc, t3]
        exact ⟨hC, Below.refl _ _, rfl⟩
      · refine ⟨rfl, fun v W ρ hC kc kf ks ki kd => ?_⟩
        have d13 : v 13 = .string (tupT f.orig ++ ⟨#[32]⟩ ++ tupT f.back ++ ⟨#[32]⟩ ++ nameZ f.state ++ ⟨#[32]⟩) := by first | exact kd _ (mem0 rfl) rfl | exact kd _ (mem1 rfl) rfl | exact kd _ (mem2 rfl) rfl | exact kd _ (mem3 rfl) rfl | exact kd _ (mem4 rfl) rfl | exact kd _ (mem5 rfl) rfl | exact kd _ (Array.mem_of_getElem? (i := 6) rfl) rfl | exact kd _ (Array.mem_of_getElem? (i := 7) rfl) rfl
        have t24 : ρ (.tmp 24) = .string (tupT f.orig ++ ⟨#[32]⟩ ++ tupT f.back ++ ⟨#[32]⟩ ++ nameZ f.state ++ ⟨#[32]⟩) := (ks 13 24 (by decide) rfl).trans d13
        have d14 : v 14 = .string (⟨#[115, 117, 114, 101]⟩) := by first | exact kd _ (mem0 rfl) rfl | exact kd _ (mem1 rfl) rfl | exact kd _ (mem2 rfl) rfl | exact kd _ (mem3 rfl) rfl | exact kd _ (mem4 rfl) rfl | exact kd _ (mem5 rfl) rfl | exact kd _ (Array.mem_of_getElem? (i := 6) rfl) rfl | exact kd _ (Array.mem_of_getElem? (i := 7) rfl) rfl
        have t25 : ρ (.tmp 25) = .string (⟨#[115, 117, 114, 101]⟩) := (ks 14 25 (by decide) rfl).trans d14
        simp [execOp, go_sem, kc, t24, t25]
        first | exact ⟨hC, Below.refl _ _, rfl⟩ | (rw [if_neg (by omega)]; exact ⟨hC, Below.refl _ _, rfl⟩)
      · refine ⟨rfl, fun v W ρ hC kc kf ks ki kd => ?_⟩
        have d15 : v 15 = .string (tupT f.orig ++ ⟨#[32]⟩ ++ tupT f.back ++ ⟨#[32]⟩ ++ nameZ f.state ++ ⟨#[32]⟩ ++ ⟨#[115, 117, 114, 101]⟩) := by first | exact kd _ (mem0 rfl) rfl | exact kd _ (mem1 rfl) rfl | exact kd _ (mem2 rfl) rfl | exact kd _ (mem3 rfl) rfl | exact kd _ (mem4 rfl) rfl | exact kd _ (mem5 rfl) rfl | exact kd _ (Array.mem_of_getElem? (i := 6) rfl) rfl | exact kd _ (Array.mem_of_getElem? (i := 7) rfl) rfl
        have t26 : ρ (.tmp 26) = .string (tupT f.orig ++ ⟨#[32]⟩ ++ tupT f.back ++ ⟨#[32]⟩ ++ nameZ f.state ++ ⟨#[32]⟩ ++ ⟨#[115, 117, 114, 101]⟩) := (ks 15 26 (by decide) rfl).trans d15
        simp [execOp, go_sem, kc, t26]
        exact ⟨hC, Below.refl _ _, rfl⟩
    intro vA_19 w2 hb2 hall
    have hvA_19 : vA_19 16 = .string (tupT f.orig ++ ⟨#[32]⟩ ++ tupT f.back ++ ⟨#[32]⟩ ++ nameZ f.state ++ ⟨#[32]⟩ ++ ⟨#[115, 117, 114, 101]⟩) := hall 16 (by decide)
    simp [upto, Act.put]
    rw [hvA_19]
    clear hall hvA_19
    have hGF2 := hidS (blk_later hGF1.out hb2)
    have hL2 := hidS (hL1.out.trans (hb2.mono hL1.out.size))
    clear hb2 hL1 hGF1
    go_wp2_with fail
    go_ret
    exact ⟨by rw [E.out]; unfold flowT; rw [M.out]; rfl, hL2.out⟩
  have M := hidS (markF_sure hu)
  have cF0 := blk_cell hGF1.out 0
  have cF1 := blk_cell hGF1.out 1
  have cF2 := blk_cell hGF1.out 2
  have cF3 := blk_cell hGF1.out 3
  have cF4 := blk_cell hGF1.out 4
  have cF5 := blk_cell hGF1.out 5
  have cF6 := blk_cell hGF1.out 6
  have cF7 := blk_cell hGF1.out 7
  have cF8 := blk_cell hGF1.out 8
  have cF9 := blk_cell hGF1.out 9
  have cF10 := blk_cell hGF1.out 10
  have cF11 := blk_cell hGF1.out 11
  have cF12 := blk_cell hGF1.out 12
  have cF13 := blk_cell hGF1.out 13
  have cF14 := blk_cell hGF1.out 14
  have cF15 := blk_cell hGF1.out 15
  have cF16 := blk_cell hGF1.out 16
  simp at cF0 cF1 cF2 cF3 cF4 cF5 cF6 cF7 cF8 cF9 cF10 cF11 cF12 cF13 cF14 cF15 cF16
  go_upto_region 8 with fail
  clear cF0 cF1 cF2 cF3 cF4 cF5 cF6 cF7 cF8 cF9 cF10 cF11 cF12 cF13 cF14 cF15 cF16
  refine grow_kinds 17 [.is (.pointer (some ⟨w.heap.size, 0, none⟩)), .is (.agg #[.int .i64 f.orig.proto, .int .i64 f.orig.src, .int .i64 f.orig.sport, .int .i64 f.orig.dst, .int .i64 f.orig.dport, .int .i64 f.orig.kind]), .is (.string (tupT f.orig)), .is (.string (tupT f.orig ++ ⟨#[32]⟩)), .is (.pointer (some ⟨w.heap.size, 6, none⟩)), .is (.agg #[.int .i64 f.back.proto, .int .i64 f.back.src, .int .i64 f.back.sport, .int .i64 f.back.dst, .int .i64 f.back.dport, .int .i64 f.back.kind]), .is (.string (tupT f.back)), .is (.string (tupT f.orig ++ ⟨#[32]⟩ ++ tupT f.back)), .is (.string (tupT f.orig ++ ⟨#[32]⟩ ++ tupT f.back ++ ⟨#[32]⟩)), .is (.pointer (some ⟨w.heap.size, 12, none⟩)), .is (.int .i64 f.state), .is (.string (nameZ f.state)), .is (.string (tupT f.orig ++ ⟨#[32]⟩ ++ tupT f.back ++ ⟨#[32]⟩ ++ nameZ f.state)), .is (.string (tupT f.orig ++ ⟨#[32]⟩ ++ tupT f.back ++ ⟨#[32]⟩ ++ nameZ f.state ++ ⟨#[32]⟩)), .is (.string (⟨#[115, 117, 114, 101]⟩)), .is (.string (tupT f.orig ++ ⟨#[32]⟩ ++ tupT f.back ++ ⟨#[32]⟩ ++ nameZ f.state ++ ⟨#[32]⟩ ++ ⟨#[115, 117, 114, 101]⟩)), .is (.string (tupT f.orig ++ ⟨#[32]⟩ ++ tupT f.back ++ ⟨#[32]⟩ ++ nameZ f.state ++ ⟨#[32]⟩ ++ ⟨#[115, 117, 114, 101]⟩))] rfl (by kernel_rfl) (by kernel_rfl) ?stepsA_20 ?finA_20
  case stepsA_20 =>
    refine ⟨?_, ?_, ?_, ?_, ?_, ?_, ?_, ?_, ?_, ?_, ?_, ?_, ?_, ?_, ?_, ?_, ?_, trivial⟩
    · refine ⟨rfl, fun v W ρ hC kc kf ks ki kd => ?_⟩
      have t1 : ρ (.tmp 1) = .pointer (some ⟨w.heap.size, 0, none⟩) := ki 1 (by decide)
      simp [execOp, go_sem, kc, t1]
      exact ⟨hC, Below.refl _ _, rfl⟩
    · refine ⟨rfl, fun v W ρ hC kc kf ks ki kd => ?_⟩
      have d0 : v 0 = .pointer (some ⟨w.heap.size, 0, none⟩) := by first | exact kd _ (mem0 rfl) rfl | exact kd _ (mem1 rfl) rfl | exact kd _ (mem2 rfl) rfl | exact kd _ (mem3 rfl) rfl | exact kd _ (mem4 rfl) rfl | exact kd _ (mem5 rfl) rfl | exact kd _ (Array.mem_of_getElem? (i := 6) rfl) rfl | exact kd _ (Array.mem_of_getElem? (i := 7) rfl) rfl
      have t11 : ρ (.tmp 11) = .pointer (some ⟨w.heap.size, 0, none⟩) := (ks 0 11 (by decide) rfl).trans d0
      have hg := blk_later hGF1.out hC
      have c0 := blk_cell hg 0
      have c1 := blk_cell hg 1
      have c2 := blk_cell hg 2
      have c3 := blk_cell hg 3
      have c4 := blk_cell hg 4
      have c5 := blk_cell hg 5
      simp at c0 c1 c2 c3 c4 c5
      simp [execOp, go_sem, kc, t11, c0, c1, c2, c3, c4, c5]
      exact ⟨hC, Below.refl _ _, rfl⟩
    · refine ⟨rfl, fun v W ρ hC kc kf ks ki kd => ?_⟩
      have d1 : v 1 = .agg #[.int .i64 f.orig.proto, .int .i64 f.orig.src, .int .i64 f.orig.sport, .int .i64 f.orig.dst, .int .i64 f.orig.dport, .int .i64 f.orig.kind] := by first | exact kd _ (mem0 rfl) rfl | exact kd _ (mem1 rfl) rfl | exact kd _ (mem2 rfl) rfl | exact kd _ (mem3 rfl) rfl | exact kd _ (mem4 rfl) rfl | exact kd _ (mem5 rfl) rfl | exact kd _ (Array.mem_of_getElem? (i := 6) rfl) rfl | exact kd _ (Array.mem_of_getElem? (i := 7) rfl) rfl
      have t12 : ρ (.tmp 12) = .agg #[.int .i64 f.orig.proto, .int .i64 f.orig.src, .int .i64 f.orig.sport, .int .i64 f.orig.dst, .int .i64 f.orig.dport, .int .i64 f.orig.kind] := (ks 1 12 (by decide) rfl).trans d1
      simp [execOp, go_sem, kc, t12, kf]
      exact Calls.mono (HO2.out W) (fun e x h => ⟨_, h.1, hC.trans (h.2.mono hC.size), h.2, rfl⟩)
    · refine ⟨rfl, fun v W ρ hC kc kf ks ki kd => ?_⟩
      have d2 : v 2 = .string (tupT f.orig) := by first | exact kd _ (mem0 rfl) rfl | exact kd _ (mem1 rfl) rfl | exact kd _ (mem2 rfl) rfl | exact kd _ (mem3 rfl) rfl | exact kd _ (mem4 rfl) rfl | exact kd _ (mem5 rfl) rfl | exact kd _ (Array.mem_of_getElem? (i := 6) rfl) rfl | exact kd _ (Array.mem_of_getElem? (i := 7) rfl) rfl
      have t13 : ρ (.tmp 13) = .string (tupT f.orig) := (ks 2 13 (by decide) rfl).trans d2
      simp [execOp, go_sem, kc, t13]
      first | exact ⟨hC, Below.refl _ _, rfl⟩ | (rw [if_neg (by omega)]; exact ⟨hC, Below.refl _ _, rfl⟩)
    · refine ⟨rfl, fun v W ρ hC kc kf ks ki kd => ?_⟩
      have t1 : ρ (.tmp 1) = .pointer (some ⟨w.heap.size, 0, none⟩) := ki 1 (by decide)
      simp [execOp, go_sem, kc, t1]
      exact ⟨hC, Below.refl _ _, rfl⟩
    · refine ⟨rfl, fun v W ρ hC kc kf ks ki kd => ?_⟩
      have d4 : v 4 = .pointer (some ⟨w.heap.size, 6, none⟩) := by first | exact kd _ (mem0 rfl) rfl | exact kd _ (mem1 rfl) rfl | exact kd _ (mem2 rfl) rfl | exact kd _ (mem3 rfl) rfl | exact kd _ (mem4 rfl) rfl | exact kd _ (mem5 rfl) rfl | exact kd _ (Array.mem_of_getElem? (i := 6) rfl) rfl | exact kd _ (Array.mem_of_getElem? (i := 7) rfl) rfl
      have t15 : ρ (.tmp 15) = .pointer (some ⟨w.heap.size, 6, none⟩) := (ks 4 15 (by decide) rfl).trans d4
      have hg := blk_later hGF1.out hC
      have c6 := blk_cell hg 6
      have c7 := blk_cell hg 7
      have c8 := blk_cell hg 8
      have c9 := blk_cell hg 9
      have c10 := blk_cell hg 10
      have c11 := blk_cell hg 11
      simp at c6 c7 c8 c9 c10 c11
      simp [execOp, go_sem, kc, t15, c6, c7, c8, c9, c10, c11]
      exact ⟨hC, Below.refl _ _, rfl⟩
    · refine ⟨rfl, fun v W ρ hC kc kf ks ki kd => ?_⟩
      have d5 : v 5 = .agg #[.int .i64 f.back.proto, .int .i64 f.back.src, .int .i64 f.back.sport, .int .i64 f.back.dst, .int .i64 f.back.dport, .int .i64 f.back.kind] := by first | exact kd _ (mem0 rfl) rfl | exact kd _ (mem1 rfl) rfl | exact kd _ (mem2 rfl) rfl | exact kd _ (mem3 rfl) rfl | exact kd _ (mem4 rfl) rfl | exact kd _ (mem5 rfl) rfl | exact kd _ (Array.mem_of_getElem? (i := 6) rfl) rfl | exact kd _ (Array.mem_of_getElem? (i := 7) rfl) rfl
      have t16 : ρ (.tmp 16) = .agg #[.int .i64 f.back.proto, .int .i64 f.back.src, .int .i64 f.back.sport, .int .i64 f.back.dst, .int .i64 f.back.dport, .int .i64 f.back.kind] := (ks 5 16 (by decide) rfl).trans d5
      simp [execOp, go_sem, kc, t16, kf]
      exact Calls.mono (HK2.out W) (fun e x h => ⟨_, h.1, hC.trans (h.2.mono hC.size), h.2, rfl⟩)
    · refine ⟨rfl, fun v W ρ hC kc kf ks ki kd => ?_⟩
      have d3 : v 3 = .string (tupT f.orig ++ ⟨#[32]⟩) := by first | exact kd _ (mem0 rfl) rfl | exact kd _ (mem1 rfl) rfl | exact kd _ (mem2 rfl) rfl | exact kd _ (mem3 rfl) rfl | exact kd _ (mem4 rfl) rfl | exact kd _ (mem5 rfl) rfl | exact kd _ (Array.mem_of_getElem? (i := 6) rfl) rfl | exact kd _ (Array.mem_of_getElem? (i := 7) rfl) rfl
      have t14 : ρ (.tmp 14) = .string (tupT f.orig ++ ⟨#[32]⟩) := (ks 3 14 (by decide) rfl).trans d3
      have d6 : v 6 = .string (tupT f.back) := by first | exact kd _ (mem0 rfl) rfl | exact kd _ (mem1 rfl) rfl | exact kd _ (mem2 rfl) rfl | exact kd _ (mem3 rfl) rfl | exact kd _ (mem4 rfl) rfl | exact kd _ (mem5 rfl) rfl | exact kd _ (Array.mem_of_getElem? (i := 6) rfl) rfl | exact kd _ (Array.mem_of_getElem? (i := 7) rfl) rfl
      have t17 : ρ (.tmp 17) = .string (tupT f.back) := (ks 6 17 (by decide) rfl).trans d6
      simp [execOp, go_sem, kc, t14, t17]
      first | exact ⟨hC, Below.refl _ _, rfl⟩ | (rw [if_neg (by omega)]; exact ⟨hC, Below.refl _ _, rfl⟩)
    · refine ⟨rfl, fun v W ρ hC kc kf ks ki kd => ?_⟩
      have d7 : v 7 = .string (tupT f.orig ++ ⟨#[32]⟩ ++ tupT f.back) := by first | exact kd _ (mem0 rfl) rfl | exact kd _ (mem1 rfl) rfl | exact kd _ (mem2 rfl) rfl | exact kd _ (mem3 rfl) rfl | exact kd _ (mem4 rfl) rfl | exact kd _ (mem5 rfl) rfl | exact kd _ (Array.mem_of_getElem? (i := 6) rfl) rfl | exact kd _ (Array.mem_of_getElem? (i := 7) rfl) rfl
      have t18 : ρ (.tmp 18) = .string (tupT f.orig ++ ⟨#[32]⟩ ++ tupT f.back) := (ks 7 18 (by decide) rfl).trans d7
      simp [execOp, go_sem, kc, t18]
      first | exact ⟨hC, Below.refl _ _, rfl⟩ | (rw [if_neg (by omega)]; exact ⟨hC, Below.refl _ _, rfl⟩)
    · refine ⟨rfl, fun v W ρ hC kc kf ks ki kd => ?_⟩
      have t1 : ρ (.tmp 1) = .pointer (some ⟨w.heap.size, 0, none⟩) := ki 1 (by decide)
      simp [execOp, go_sem, kc, t1]
      exact ⟨hC, Below.refl _ _, rfl⟩
    · refine ⟨rfl, fun v W ρ hC kc kf ks ki kd => ?_⟩
      have d9 : v 9 = .pointer (some ⟨w.heap.size, 12, none⟩) := by first | exact kd _ (mem0 rfl) rfl | exact kd _ (mem1 rfl) rfl | exact kd _ (mem2 rfl) rfl | exact kd _ (mem3 rfl) rfl | exact kd _ (mem4 rfl) rfl | exact kd _ (mem5 rfl) rfl | exact kd _ (Array.mem_of_getElem? (i := 6) rfl) rfl | exact kd _ (Array.mem_of_getElem? (i := 7) rfl) rfl
      have t20 : ρ (.tmp 20) = .pointer (some ⟨w.heap.size, 12, none⟩) := (ks 9 20 (by decide) rfl).trans d9
      have hg := blk_later hGF1.out hC
      have c12 := blk_cell hg 12
      simp at c12
      simp [execOp, go_sem, kc, t20, c12]
      exact ⟨hC, Below.refl _ _, rfl⟩
    · refine ⟨rfl, fun v W ρ hC kc kf ks ki kd => ?_⟩
      have d10 : v 10 = .int .i64 f.state := by first | exact kd _ (mem0 rfl) rfl | exact kd _ (mem1 rfl) rfl | exact kd _ (mem2 rfl) rfl | exact kd _ (mem3 rfl) rfl | exact kd _ (mem4 rfl) rfl | exact kd _ (mem5 rfl) rfl | exact kd _ (Array.mem_of_getElem? (i := 6) rfl) rfl | exact kd _ (Array.mem_of_getElem? (i := 7) rfl) rfl
      have t21 : ρ (.tmp 21) = .int .i64 f.state := (ks 10 21 (by decide) rfl).trans d10
      simp [execOp, go_sem, kc, t21, kf]
      exact Calls.mono (HN.out W) (fun e x h => ⟨_, h.1, hC.trans (h.2.mono hC.size), h.2, rfl⟩)
    · refine ⟨rfl, fun v W ρ hC kc kf ks ki kd => ?_⟩
      have d8 : v 8 = .string (tupT f.orig ++ ⟨#[32]⟩ ++ tupT f.back ++ ⟨#[32]⟩) := by first | exact kd _ (mem0 rfl) rfl | exact kd _ (mem1 rfl) rfl | exact kd _ (mem2 rfl) rfl | exact kd _ (mem3 rfl) rfl | exact kd _ (mem4 rfl) rfl | exact kd _ (mem5 rfl) rfl | exact kd _ (Array.mem_of_getElem? (i := 6) rfl) rfl | exact kd _ (Array.mem_of_getElem? (i := 7) rfl) rfl
      have t19 : ρ (.tmp 19) = .string (tupT f.orig ++ ⟨#[32]⟩ ++ tupT f.back ++ ⟨#[32]⟩) := (ks 8 19 (by decide) rfl).trans d8
      have d11 : v 11 = .string (nameZ f.state) := by first | exact kd _ (mem0 rfl) rfl | exact kd _ (mem1 rfl) rfl | exact kd _ (mem2 rfl) rfl | exact kd _ (mem3 rfl) rfl | exact kd _ (mem4 rfl) rfl | exact kd _ (mem5 rfl) rfl | exact kd _ (Array.mem_of_getElem? (i := 6) rfl) rfl | exact kd _ (Array.mem_of_getElem? (i := 7) rfl) rfl
      have t22 : ρ (.tmp 22) = .string (nameZ f.state) := (ks 11 22 (by decide) rfl).trans d11
      simp [execOp, go_sem, kc, t19, t22]
      first | exact ⟨hC, Below.refl _ _, rfl⟩ | (rw [if_neg (by omega)]; exact ⟨hC, Below.refl _ _, rfl⟩)
    · refine ⟨rfl, fun v W ρ hC kc kf ks ki kd => ?_⟩
      have d12 : v 12 = .string (tupT f.orig ++ ⟨#[32]⟩ ++ tupT f.back ++ ⟨#[32]⟩ ++ nameZ f.state) := by first | exact kd _ (mem0 rfl) rfl | exact kd _ (mem1 rfl) rfl | exact kd _ (mem2 rfl) rfl | exact kd _ (mem3 rfl) rfl | exact kd _ (mem4 rfl) rfl | exact kd _ (mem5 rfl) rfl | exact kd _ (Array.mem_of_getElem? (i := 6) rfl) rfl | exact kd _ (Array.mem_of_getElem? (i := 7) rfl) rfl
      have t23 : ρ (.tmp 23) = .string (tupT f.orig ++ ⟨#[32]⟩ ++ tupT f.back ++ ⟨#[32]⟩ ++ nameZ f.state) := (ks 12 23 (by decide) rfl).trans d12
      simp [execOp, go_sem, kc, t23]
      first | exact ⟨hC, Below.refl _ _, rfl⟩ | (rw [if_neg (by omega)]; exact ⟨hC, Below.refl _ _, rfl⟩)
    · refine ⟨rfl, fun v W ρ hC kc kf ks ki kd => ?_⟩
      have t3 : ρ (.tmp 3) = .string (⟨#[115, 117, 114, 101]⟩) := ki 3 (by decide)
      simp [execOp, go_sem, kc, t3]
      exact ⟨hC, Below.refl _ _, rfl⟩
    · refine ⟨rfl, fun v W ρ hC kc kf ks ki kd => ?_⟩
      have d13 : v 13 = .string (tupT f.orig ++ ⟨#[32]⟩ ++ tupT f.back ++ ⟨#[32]⟩ ++ nameZ f.state ++ ⟨#[32]⟩) := by first | exact kd _ (mem0 rfl) rfl | exact kd _ (mem1 rfl) rfl | exact kd _ (mem2 rfl) rfl | exact kd _ (mem3 rfl) rfl | exact kd _ (mem4 rfl) rfl | exact kd _ (mem5 rfl) rfl | exact kd _ (Array.mem_of_getElem? (i := 6) rfl) rfl | exact kd _ (Array.mem_of_getElem? (i := 7) rfl) rfl
      have t24 : ρ (.tmp 24) = .string (tupT f.orig ++ ⟨#[32]⟩ ++ tupT f.back ++ ⟨#[32]⟩ ++ nameZ f.state ++ ⟨#[32]⟩) := (ks 13 24 (by decide) rfl).trans d13
      have d14 : v 14 = .string (⟨#[115, 117, 114, 101]⟩) := by first | exact kd _ (mem0 rfl) rfl | exact kd _ (mem1 rfl) rfl | exact kd _ (mem2 rfl) rfl | exact kd _ (mem3 rfl) rfl | exact kd _ (mem4 rfl) rfl | exact kd _ (mem5 rfl) rfl | exact kd _ (Array.mem_of_getElem? (i := 6) rfl) rfl | exact kd _ (Array.mem_of_getElem? (i := 7) rfl) rfl
      have t25 : ρ (.tmp 25) = .string (⟨#[115, 117, 114, 101]⟩) := (ks 14 25 (by decide) rfl).trans d14
      simp [execOp, go_sem, kc, t24, t25]
      first | exact ⟨hC, Below.refl _ _, rfl⟩ | (rw [if_neg (by omega)]; exact ⟨hC, Below.refl _ _, rfl⟩)
    · refine ⟨rfl, fun v W ρ hC kc kf ks ki kd => ?_⟩
      have d15 : v 15 = .string (tupT f.orig ++ ⟨#[32]⟩ ++ tupT f.back ++ ⟨#[32]⟩ ++ nameZ f.state ++ ⟨#[32]⟩ ++ ⟨#[115, 117, 114, 101]⟩) := by first | exact kd _ (mem0 rfl) rfl | exact kd _ (mem1 rfl) rfl | exact kd _ (mem2 rfl) rfl | exact kd _ (mem3 rfl) rfl | exact kd _ (mem4 rfl) rfl | exact kd _ (mem5 rfl) rfl | exact kd _ (Array.mem_of_getElem? (i := 6) rfl) rfl | exact kd _ (Array.mem_of_getElem? (i := 7) rfl) rfl
      have t26 : ρ (.tmp 26) = .string (tupT f.orig ++ ⟨#[32]⟩ ++ tupT f.back ++ ⟨#[32]⟩ ++ nameZ f.state ++ ⟨#[32]⟩ ++ ⟨#[115, 117, 114, 101]⟩) := (ks 15 26 (by decide) rfl).trans d15
      simp [execOp, go_sem, kc, t26]
      exact ⟨hC, Below.refl _ _, rfl⟩
  intro vA_20 w2 hb2 hall
  have hvA_20 : vA_20 16 = .string (tupT f.orig ++ ⟨#[32]⟩ ++ tupT f.back ++ ⟨#[32]⟩ ++ nameZ f.state ++ ⟨#[32]⟩ ++ ⟨#[115, 117, 114, 101]⟩) := hall 16 (by decide)
  simp [upto, Act.put]
  rw [hvA_20]
  clear hall hvA_20
  have hGF2 := hidS (blk_later hGF1.out hb2)
  have hL2 := hidS (hL1.out.trans (hb2.mono hL1.out.size))
  clear hb2 hL1 hGF1
  go_wp2_with fail
  go_ret
  exact ⟨by rw [E.out]; unfold flowT; rw [M.out]; rfl, hL2.out⟩
end Go.Proofs.YtbhemimhmkgfiaaDoor
