/- Proved here: spec.DrawGoesAs and spec.DrawRuleFor draw rules, tuples and numbers; all old memory stays (condition: the bytes that are drawn from can be read, at most 2^20). -/
import Derived.Test.YtilajoafppplcaaAll4
import Derived.Test.YtilajoafppplcaaDrawRules
import Derived.Test.YtilajoafppplcaaDrawUsed
namespace Go.Proofs.Ytilajoafppplcaa
open Go.ChangeShapes Go.WideShapes Go.ChangeAt Go.RowKit
set_option linter.unusedVariables false
set_option linter.unusedSimpArgs false
set_option maxRecDepth 100000

theorem own_fix {B : Nat} {a : Option Addr} {len cap : Nat} {w0 : World} {t : TypeId} {sz n c : Nat} {ad : Option Addr} {zs : List Int} {W : World} (h : OwnS B a len cap w0 t sz (.slice ad n c) n (zs.map (.int .i64)) W) :
    ∃ L : List (Nat × Obj), (∀ x ∈ L, W.heap[x.1]? = some x.2 ∧ w0.heap.size ≤ x.1) ∧ ∀ W' : World, (∀ x ∈ L, W'.heap[x.1]? = some x.2) → RowZ ad zs W' := by
  obtain ⟨h1, h2⟩ := h.own
  rcases h2 with ⟨e, hn⟩ | ⟨g, cap', cur, e, hD, hh, r⟩
  · refine ⟨[], fun x hx => by simp at hx, fun W' _ j hj => ?_⟩
    simp [hn] at h1
    rw [h1] at hj
    simp at hj
  · refine ⟨[(g, .cells cur t)], fun x hx => ?_, fun W' hx => ?_⟩
    · simp at hx
      subst hx
      exact ⟨hh, hD⟩
    · exact own_rowZ (W := W') (D := w0.heap.size) (t := t) (sz := sz) ⟨h1, .inr ⟨g, cap', cur, e, hD, hx (g, .cells cur t) (by simp), r⟩⟩
theorem fix_grown {L : List (Nat × Obj)} {D B : Nat} {W W' : World} (h : ∀ x ∈ L, W.heap[x.1]? = some x.2 ∧ D ≤ x.1) (hB : B < D) (hg : W.grownBy W' (some B)) : ∀ x ∈ L, W'.heap[x.1]? = some x.2 ∧ D ≤ x.1 := fun x hx => by
  obtain ⟨h1, h2⟩ := h x hx
  exact ⟨(hg.block _ (blk_lt h1) (fun e => by injection e with e; omega)).trans h1, h2⟩
theorem three_starts (j : Nat) (h : j < 3) : ∃ z : Int, -1 ≤ z ∧ z ≤ 1000001 ∧ (#[.int .i64 (-1), .int .i64 1000000, .int .i64 1000001] : Array Value)[j]? = some (.int .i64 z) := by
  rcases (by omega : j = 0 ∨ j = 1 ∨ j = 2) with rfl | rfl | rfl
  · exact ⟨-1, by omega, by omega, rfl⟩
  · exact ⟨1000000, by omega, by omega, rfl⟩
  · exact ⟨1000001, by omega, by omega, rfl⟩
/-- what is drawn for GoesAs -/
def SomeGo (e : Ending) (W : World) : Prop := ∃ (aa : Option Addr) (ca : Nat) (rs : List Rl) (t : Tp) (z : Int) (bb : Option Addr) (cb : Nat) (us : List Tp), e = .returned (.tuple #[.slice aa (rs : List Rl).length ca, .agg #[.int .i64 t.proto, .int .i64 t.src, .int .i64 t.sport, .int .i64 t.dst, .int .i64 t.dport, .int .i64 t.kind], .int .i64 z, .slice bb (us : List Tp).length cb]) ∧ rs.length ≤ 7 ∧ us.length ≤ 6 ∧ RowZ aa (flatRule rs) W ∧ RowZ bb (flatTuple us) W
set_option maxHeartbeats 4000000 in
theorem drawGoesAs_any (a : Option Addr) (len cap : Nat) (w : World) (hR : RowAt w.heap.size a len w) (hl : len ≤ 1048576) :
    Calls Try.prog 20 #[.slice a len cap] w fun e w' => SomeGo e w' ∧ Below w.heap.size w w' := by
  have hL0 := hidS ((Below.refl w.heap.size w).alloc (Nat.le_refl _) (.cells #[.int .i64 0, .int .i64 0, .int .i64 0, .int .i64 0, .int .i64 0, .int .i64 0] 52))
  have hRR := hidS hR
  have hR0 := hidS (hR.later hL0.out)
  have hG00 : Hid ((w.alloc (.cells #[.int .i64 0, .int .i64 0, .int .i64 0, .int .i64 0, .int .i64 0, .int .i64 0] 52)).heap[w.heap.size]? = some (.cells #[.int .i64 0, .int .i64 0, .int .i64 0, .int .i64 0, .int .i64 0, .int .i64 0] 52)) := by
    show _ = _
    have := heap_newG w (.cells #[.int .i64 0, .int .i64 0, .int .i64 0, .int .i64 0, .int .i64 0, .int .i64 0] 52)
    simpa using this
  clear hR
  go_enter Try.func20, Try.ntmps20
  go_wp2_with fail
  generalize w.alloc (.cells #[.int .i64 0, .int .i64 0, .int .i64 0, .int .i64 0, .int .i64 0, .int .i64 0] 52) = w1 at hL0 hR0 hG00 ⊢
  refine (source_any a len cap w1 hR0.out hl).mono ?_
  rintro _ w2 ⟨rfl, hS2, hb2⟩
  have l0 := blk_lt hG00.out
  have hG02 := hidS (blk_later hG00.out hb2)
  have hL2 := hidS (hL0.out.trans (hb2.mono hL0.out.size))
  have HS2 := hidS hS2
  clear hb2 hL0 hR0 hG00 hS2
  generalize w1.heap.size = B at *
  go_wp2_with fail
  refine (srcRules_any B a len cap w2 HS2.out).mono ?_
  rintro _ w3 ⟨v, rfl, aa, ca, rs, rfl, hrs, hA3⟩
  have hg3 := hA3.gr
  have hS3 := hidS hA3.src
  have lB2 := hA3.lt
  obtain ⟨L1, hF3, hRow⟩ := own_fix hA3
  have HRow := hidS hRow
  have HF3 := hidS hF3
  have HRS := hidS hrs
  have hG03 := hidS ((hg3.block _ (blk_lt hG02.out) (fun e => by injection e with e; omega)).trans hG02.out)
  have hL3 := hidS (hL2.out.grown hg3 hL2.out.size (fun k e => by cases e; omega))
  clear hA3 hRow hF3 hrs hg3 hL2 hG02 HS2
  generalize w2.heap.size = D2 at *
  go_wp2_with fail
  refine (srcTuple_any B a len cap w3 hS3.out).mono ?_
  rintro _ w4 ⟨t, rfl, hS4, hg4⟩
  have hG04 := hidS ((hg4.block _ (blk_lt hG03.out) (fun e => by injection e with e; omega)).trans hG03.out)
  have hL4 := hidS (hL3.out.grown hg4 hL3.out.size (fun k e => by cases e; omega))
  have HF4 := hidS (fix_grown HF3.out lB2 hg4)
  have HS5 := hidS (src_more hS4 (.cells #[.int .i64 t.proto, .int .i64 t.src, .int .i64 t.sport, .int .i64 t.dst, .int .i64 t.dport, .int .i64 t.kind] 52))
  have hL5 := hidS (hL4.out.alloc hL4.out.size (.cells #[.int .i64 t.proto, .int .i64 t.src, .int .i64 t.sport, .int .i64 t.dst, .int .i64 t.dport, .int .i64 t.kind] 52))
  have hG05 := hidS (blk_alloc hG04.out (.cells #[.int .i64 t.proto, .int .i64 t.src, .int .i64 t.sport, .int .i64 t.dst, .int .i64 t.dport, .int .i64 t.kind] 52))
  have hT5 := hidS (heap_newG w4 (.cells #[.int .i64 t.proto, .int .i64 t.src, .int .i64 t.sport, .int .i64 t.dst, .int .i64 t.dport, .int .i64 t.kind] 52))
  have HF5 := hidS (fix_grown HF4.out lB2 (World.grownBy_alloc w4 (.cells #[.int .i64 t.proto, .int .i64 t.src, .int .i64 t.sport, .int .i64 t.dst, .int .i64 t.dport, .int .i64 t.kind] 52) (some B)))
  have lg : w.heap.size < w4.heap.size := blk_lt hG04.out
  have lgB : B < w4.heap.size := hS4.lt
  clear hg4 hS4 hL3 hG03 HF3 hS3 hL4 hG04 HF4
  go_upto_region 4 with fail
  generalize w4.alloc (.cells #[.int .i64 t.proto, .int .i64 t.src, .int .i64 t.sport, .int .i64 t.dst, .int .i64 t.dport, .int .i64 t.kind] 52) = w5 at HS5 hL5 hG05 hT5 HF5 ⊢
  generalize w4.heap.size = g at *
  go_wp2_with fail
  refine (srcUsed_any B a len cap w5 HS5.out).mono ?_
  rintro _ w6 ⟨v, rfl, bb, cb, us, rfl, hus, hA6⟩
  have hg6 := hA6.gr
  have hS6 := hidS hA6.src
  have lB5 := hA6.lt
  obtain ⟨L2, hF6, hRow2⟩ := own_fix hA6
  have HRow2 := hidS hRow2
  have HU6 := hidS hF6
  have HUS := hidS hus
  have hG06 := hidS ((hg6.block _ (blk_lt hG05.out) (fun e => by injection e with e; omega)).trans hG05.out)
  have hL6 := hidS (hL5.out.grown hg6 hL5.out.size (fun k e => by cases e; omega))
  have hT6 := hidS ((hg6.block _ (blk_lt hT5.out) (fun e => by injection e with e; omega)).trans hT5.out)
  have HF6 := hidS (fix_grown HF5.out lB2 hg6)
  have lR5 : w.heap.size < w5.heap.size := blk_lt hG05.out
  clear hA6 hRow2 hF6 hus hg6 hL5 hG05 hT5 HF5 HS5
  generalize w5.heap.size = D5 at *
  go_wp2_with fail
  refine (srcOne_any B a len cap 12 w6 hS6.out (by omega)).mono ?_
  rintro _ w7 ⟨c, rfl, hS7, hO7⟩
  have hg7 := hO7.grown
  have hG07 := hidS ((hg7.block _ (blk_lt hG06.out) (fun e => by injection e with e; omega)).trans hG06.out)
  have hL7 := hidS (hL6.out.grown hg7 hL6.out.size (fun k e => by cases e; omega))
  have hT7 := hidS ((hg7.block _ (blk_lt hT6.out) (fun e => by injection e with e; omega)).trans hT6.out)
  have HF7 := hidS (fix_grown HF6.out lB2 hg7)
  have HU7 := hidS (fix_grown HU6.out lB5 hg7)
  have HS7 := hidS hS7
  clear hO7 hg7 hS6 hL6 hG06 hT6 HF6 HU6 hS7
  have hK : Hid (DrOk B a len w ((g, .cells #[.int .i64 t.proto, .int .i64 t.src, .int .i64 t.sport, .int .i64 t.dst, .int .i64 t.dport, .int .i64 t.kind] 52) :: (L1 ++ L2)) [(w.heap.size, 52, (fun cs : Array Value => ∃ q : Tp, cs = #[.int .i64 q.proto, .int .i64 q.src, .int .i64 q.sport, .int .i64 q.dst, .int .i64 q.dport, .int .i64 q.kind]))]) := by
    refine ⟨hRR.out, by omega, fun x hx => ?_, fun x hx => ?_, fun x hx y hy => ?_⟩
    · simp only [List.mem_cons, List.mem_append] at hx
      rcases hx with rfl | hx | hx
      · simp; omega
      · have := (HF7.out x hx).2; omega
      · have := (HU7.out x hx).2; omega
    · simp at hx; subst hx; constructor <;> (simp <;> omega)
    · simp at hy; subst hy
      simp only [List.mem_cons, List.mem_append] at hx
      rcases hx with rfl | hx | hx
      · simp; omega
      · have := (HF7.out x hx).2; simp; omega
      · have := (HU7.out x hx).2; simp; omega
  have hC0 : Hid (DrC B a len cap w ((g, .cells #[.int .i64 t.proto, .int .i64 t.src, .int .i64 t.sport, .int .i64 t.dst, .int .i64 t.dport, .int .i64 t.kind] 52) :: (L1 ++ L2)) [(w.heap.size, 52, (fun cs : Array Value => ∃ q : Tp, cs = #[.int .i64 q.proto, .int .i64 q.src, .int .i64 q.sport, .int .i64 q.dst, .int .i64 q.dport, .int .i64 q.kind]))] w7.drew) := by
    refine ⟨HS7.out, hL7.out.drew, fun x hx => ?_, fun x hx => ?_⟩
    · simp only [List.mem_cons, List.mem_append] at hx
      rcases hx with rfl | hx | hx
      · exact hT7.out
      · exact (HF7.out x hx).1
      · exact (HU7.out x hx).1
    · simp at hx; subst hx; exact ⟨_, ⟨zeroTp, rfl⟩, hG07.out⟩
  clear HS7 hL7 hG07 hT7 HF7 HU7
  cases c
  · go_wp2_with fail
    refine grow_res (DrC B a len cap w ((g, .cells #[.int .i64 t.proto, .int .i64 t.src, .int .i64 t.sport, .int .i64 t.dst, .int .i64 t.dport, .int .i64 t.kind] 52) :: (L1 ++ L2)) [(w.heap.size, 52, (fun cs : Array Value => ∃ q : Tp, cs = #[.int .i64 q.proto, .int .i64 q.src, .int .i64 q.sport, .int .i64 q.dst, .int .i64 q.dport, .int .i64 q.kind]))]) (DrR B [(w.heap.size, 52, (fun cs : Array Value => ∃ q : Tp, cs = #[.int .i64 q.proto, .int .i64 q.src, .int .i64 q.sport, .int .i64 q.dst, .int .i64 q.dport, .int .i64 q.kind]))]) (kpOf [isP (.slice aa rs.length ca), isP (.agg #[.int .i64 t.proto, .int .i64 t.src, .int .i64 t.sport, .int .i64 t.dst, .int .i64 t.dport, .int .i64 t.kind]), isP (.pointer (some ⟨B, 0, none⟩)), (fun v _ => ∃ n : Int, v = .int .i64 n ∧ (0 : Int) ≤ n ∧ n ≤ 8), isP (.slice bb us.length cb), isP (.slice aa rs.length ca), anyP, (fun v _ => ∃ n : Int, v = .int .i64 n ∧ (0 : Int) ≤ n ∧ n ≤ 8), isP (.slice bb us.length cb)]) (by kernel_rfl) (by kernel_rfl) (all_lastR _ ⟨pure_last, pure_last, pure_last, pure_last, pure_last, pure_last, pure_last, pure_last, pure_last, trivial⟩) hC0.out ?steps ?fin
    case steps =>
      refine ⟨?_, ?_, ?_, ?_, ?_, ?_, ?_, ?_, ?_, trivial⟩
      · refine ⟨rfl, fun v W ρ hC kc kf ks ki kd => ?_⟩
        have t7 : ρ (.tmp 7) = .slice aa rs.length ca := ki 7 (by decide)
        simp [execOp, go_sem, t7]
        simp only [RanS]
        exact ⟨hC, DrR.refl _, rfl⟩
      · refine ⟨rfl, fun v W ρ hC kc kf ks ki kd => ?_⟩
        have t8 : ρ (.tmp 8) = .pointer (some ⟨g, 0, none⟩) := ki 8 (by decide)
        have hg := hC.fix (g, .cells #[.int .i64 t.proto, .int .i64 t.src, .int .i64 t.sport, .int .i64 t.dst, .int .i64 t.dport, .int .i64 t.kind] 52) (by simp)
        have c0 := blk_cell hg 0
        have c1 := blk_cell hg 1
        have c2 := blk_cell hg 2
        have c3 := blk_cell hg 3
        have c4 := blk_cell hg 4
        have c5 := blk_cell hg 5
        simp at c0 c1 c2 c3 c4 c5
        simp [execOp, go_sem, t8, c0, c1, c2, c3, c4, c5]
        simp only [RanS]
        exact ⟨hC, DrR.refl _, rfl⟩
      · refine ⟨rfl, fun v W ρ hC kc kf ks ki kd => ?_⟩
        have t6 : ρ (.tmp 6) = .pointer (some ⟨B, 0, none⟩) := ki 6 (by decide)
        simp [execOp, go_sem, t6]
        simp only [RanS]
        exact ⟨hC, DrR.refl _, rfl⟩
      · refine ⟨rfl, fun v W ρ hC kc kf ks ki kd => ?_⟩
        have d2 : v 2 = .pointer (some ⟨B, 0, none⟩) := by first | exact kd _ (Array.mem_of_getElem? (i := 0) rfl) rfl | exact kd _ (Array.mem_of_getElem? (i := 1) rfl) rfl | exact kd _ (Array.mem_of_getElem? (i := 2) rfl) rfl | exact kd _ (Array.mem_of_getElem? (i := 3) rfl) rfl
        have t30 : ρ (.tmp 30) = .pointer (some ⟨B, 0, none⟩) := (ks 2 30 (by decide) rfl).trans d2
        simp [execOp, go_sem, t30, kf, kc]
        simp only [RanS]
        refine Calls.mono (srcN_any B a len cap 9 W hC.src (by omega)) (fun e x h => ?_)
        obtain ⟨r, rfl, h1, h2, h3, h4⟩ := h
        obtain ⟨q1, q2⟩ := hC.grown hK.out h3 h4.grown
        exact ⟨_, rfl, q1, q2, r, rfl, h1, by omega⟩
      · refine ⟨rfl, fun v W ρ hC kc kf ks ki kd => ?_⟩
        have t9 : ρ (.tmp 9) = .slice bb us.length cb := ki 9 (by decide)
        simp [execOp, go_sem, t9]
        simp only [RanS]
        exact ⟨hC, DrR.refl _, rfl⟩
      · refine ⟨rfl, fun v W ρ hC kc kf ks ki kd => ?_⟩
        have d0 : v 0 = .slice aa rs.length ca := by first | exact kd _ (Array.mem_of_getElem? (i := 0) rfl) rfl | exact kd _ (Array.mem_of_getElem? (i := 1) rfl) rfl | exact kd _ (Array.mem_of_getElem? (i := 2) rfl) rfl | exact kd _ (Array.mem_of_getElem? (i := 3) rfl) rfl
        have t28 : ρ (.tmp 28) = .slice aa rs.length ca := (ks 0 28 (by decide) rfl).trans d0
        simp [execOp, go_sem, t28]
        simp only [RanS]
        exact ⟨hC, DrR.refl _, rfl⟩
      · refine ⟨rfl, fun v W ρ hC kc kf ks ki kd => ?_⟩
        have d1 : v 1 = .agg #[.int .i64 t.proto, .int .i64 t.src, .int .i64 t.sport, .int .i64 t.dst, .int .i64 t.dport, .int .i64 t.kind] := by first | exact kd _ (Array.mem_of_getElem? (i := 0) rfl) rfl | exact kd _ (Array.mem_of_getElem? (i := 1) rfl) rfl | exact kd _ (Array.mem_of_getElem? (i := 2) rfl) rfl | exact kd _ (Array.mem_of_getElem? (i := 3) rfl) rfl
        have t29 : ρ (.tmp 29) = .agg #[.int .i64 t.proto, .int .i64 t.src, .int .i64 t.sport, .int .i64 t.dst, .int .i64 t.dport, .int .i64 t.kind] := (ks 1 29 (by decide) rfl).trans d1
        have t3 : ρ (.tmp 3) = .pointer (some ⟨w.heap.size, 0, none⟩) := ki 3 (by decide)
        have hz : ∀ cs, (fun cs : Array Value => ∃ q : Tp, cs = #[.int .i64 q.proto, .int .i64 q.src, .int .i64 q.sport, .int .i64 q.dst, .int .i64 q.dport, .int .i64 q.kind]) cs → cs.size = 6 := fun cs h => by obtain ⟨q, h⟩ := h; first | (subst h; rfl) | (rw [h.1]; rfl)
        have hth := hC.there (w.heap.size) 52 (fun cs : Array Value => ∃ q : Tp, cs = #[.int .i64 q.proto, .int .i64 q.src, .int .i64 q.sport, .int .i64 q.dst, .int .i64 q.dport, .int .i64 q.kind]) 6 (by simp) hz
        have hrun := run_storeAt_mid (P := Try.prog) W (w.heap.size) 0 52 #[.int .i64 t.proto, .int .i64 t.src, .int .i64 t.sport, .int .i64 t.dst, .int .i64 t.dport, .int .i64 t.kind] hth (by kernel_rfl) (by simp [Value.oneCell'])
        obtain ⟨q1, q2⟩ := hC.store hK.out (w.heap.size) 52 (fun cs : Array Value => ∃ q : Tp, cs = #[.int .i64 q.proto, .int .i64 q.src, .int .i64 q.sport, .int .i64 q.dst, .int .i64 q.dport, .int .i64 q.kind]) #[.int .i64 t.proto, .int .i64 t.src, .int .i64 t.sport, .int .i64 t.dst, .int .i64 t.dport, .int .i64 t.kind] (by simp) (fun y hy e => by simp at hy; subst hy; rfl) ⟨t, rfl⟩ hz
        simp only [execOp, t3, t29, Sem.run_bind, hrun, Result.andThen_ok, Sem.run_pure]
        simp only [RanS]
        exact ⟨q1, q2, trivial⟩
      · refine ⟨rfl, fun v W ρ hC kc kf ks ki kd => ?_⟩
        obtain ⟨n3, d3, l3, u3⟩ : ∃ n : Int, v 3 = .int .i64 n ∧ (0 : Int) ≤ n ∧ n ≤ 8 := by first | exact kd _ (Array.mem_of_getElem? (i := 0) rfl) rfl | exact kd _ (Array.mem_of_getElem? (i := 1) rfl) rfl | exact kd _ (Array.mem_of_getElem? (i := 2) rfl) rfl | exact kd _ (Array.mem_of_getElem? (i := 3) rfl) rfl
        have t31 : ρ (.tmp 31) = .int .i64 n3 := (ks 3 31 (by decide) rfl).trans d3
        simp [execOp, go_sem, t31]
        simp only [RanS]
        exact ⟨hC, DrR.refl _, n3, rfl, l3, u3⟩
      · refine ⟨rfl, fun v W ρ hC kc kf ks ki kd => ?_⟩
        have d4 : v 4 = .slice bb us.length cb := by first | exact kd _ (Array.mem_of_getElem? (i := 0) rfl) rfl | exact kd _ (Array.mem_of_getElem? (i := 1) rfl) rfl | exact kd _ (Array.mem_of_getElem? (i := 2) rfl) rfl | exact kd _ (Array.mem_of_getElem? (i := 3) rfl) rfl
        have t32 : ρ (.tmp 32) = .slice bb us.length cb := (ks 4 32 (by decide) rfl).trans d4
        simp [execOp, go_sem, t32]
        simp only [RanS]
        exact ⟨hC, DrR.refl _, rfl⟩
    case fin =>
      intro v W hC hall
      obtain ⟨x0, ⟨q0, rfl⟩, hr0⟩ := hC.res (w.heap.size, 52, (fun cs : Array Value => ∃ q : Tp, cs = #[.int .i64 q.proto, .int .i64 q.src, .int .i64 q.sport, .int .i64 q.dst, .int .i64 q.dport, .int .i64 q.kind])) (by simp)
      have e2 : v 5 = .slice aa rs.length ca := hall 5 (by decide)
      have e5 : v 8 = .slice bb us.length cb := hall 8 (by decide)
      obtain ⟨m, e4, _, _⟩ : ∃ n : Int, v 7 = .int .i64 n ∧ (0 : Int) ≤ n ∧ n ≤ 8 := hall 7 (by decide)
      have HB := hidS hC.bel
      have HX1 := hidS (HRow.out W (fun x hx => hC.fix x (by simp [hx])))
      have HX2 := hidS (HRow2.out W (fun x hx => hC.fix x (by simp [hx])))
      simp [upto, Act.put]
      rw [e2, e4, e5]
      have k0 := blk_cell hr0
      clear hC hall hr0 hC0 hK e2 e4 e5
      go_wp2_with fail
      exact bodyPost_ret (v := .tuple #[.slice aa rs.length ca, .agg #[.int .i64 q0.proto, .int .i64 q0.src, .int .i64 q0.sport, .int .i64 q0.dst, .int .i64 q0.dport, .int .i64 q0.kind], .int .i64 m, .slice bb us.length cb]) (by simp [results, Try.results20, go_sem, *]) rfl ⟨⟨_, _, rs, q0, m, _, _, us, rfl, HRS.out, HUS.out, HX1.out, HX2.out⟩, HB.out⟩
  · go_wp2_with fail
    refine grow_res (DrC B a len cap w ((g, .cells #[.int .i64 t.proto, .int .i64 t.src, .int .i64 t.sport, .int .i64 t.dst, .int .i64 t.dport, .int .i64 t.kind] 52) :: (L1 ++ L2)) [(w.heap.size, 52, (fun cs : Array Value => ∃ q : Tp, cs = #[.int .i64 q.proto, .int .i64 q.src, .int .i64 q.sport, .int .i64 q.dst, .int .i64 q.dport, .int .i64 q.kind]))]) (DrR B [(w.heap.size, 52, (fun cs : Array Value => ∃ q : Tp, cs = #[.int .i64 q.proto, .int .i64 q.src, .int .i64 q.sport, .int .i64 q.dst, .int .i64 q.dport, .int .i64 q.kind]))]) (kpOf [isP (.slice aa rs.length ca), isP (.agg #[.int .i64 t.proto, .int .i64 t.src, .int .i64 t.sport, .int .i64 t.dst, .int .i64 t.dport, .int .i64 t.kind]), rowR B [(w.heap.size, 52, (fun cs : Array Value => ∃ q : Tp, cs = #[.int .i64 q.proto, .int .i64 q.src, .int .i64 q.sport, .int .i64 q.dst, .int .i64 q.dport, .int .i64 q.kind]))] #[.int .i64 (-1), .int .i64 1000000, .int .i64 1000001] 2, isP (.pointer (some ⟨B, 0, none⟩)), (fun v _ => ∃ n : Int, v = .int .i64 n ∧ (0 : Int) ≤ n ∧ n ≤ 2), ptrR B [(w.heap.size, 52, (fun cs : Array Value => ∃ q : Tp, cs = #[.int .i64 q.proto, .int .i64 q.src, .int .i64 q.sport, .int .i64 q.dst, .int .i64 q.dport, .int .i64 q.kind]))] #[.int .i64 (-1), .int .i64 1000000, .int .i64 1000001] 2, (fun v _ => ∃ n : Int, v = .int .i64 n ∧ (-1 : Int) ≤ n ∧ n ≤ 1000001), isP (.slice bb us.length cb), isP (.slice aa rs.length ca), anyP, (fun v _ => ∃ n : Int, v = .int .i64 n ∧ (-1 : Int) ≤ n ∧ n ≤ 1000001), isP (.slice bb us.length cb)]) (by kernel_rfl) (by kernel_rfl) (all_lastR _ ⟨pure_last, pure_last, rowR_last _ _, pure_last, pure_last, ptrR_last _ _, pure_last, pure_last, pure_last, pure_last, pure_last, pure_last, trivial⟩) hC0.out ?steps ?fin
    case steps =>
      refine ⟨?_, ?_, ?_, ?_, ?_, ?_, ?_, ?_, ?_, ?_, ?_, ?_, trivial⟩
      · refine ⟨rfl, fun v W ρ hC kc kf ks ki kd => ?_⟩
        have t7 : ρ (.tmp 7) = .slice aa rs.length ca := ki 7 (by decide)
        simp [execOp, go_sem, t7]
        simp only [RanS]
        exact ⟨hC, DrR.refl _, rfl⟩
      · refine ⟨rfl, fun v W ρ hC kc kf ks ki kd => ?_⟩
        have t8 : ρ (.tmp 8) = .pointer (some ⟨g, 0, none⟩) := ki 8 (by decide)
        have hg := hC.fix (g, .cells #[.int .i64 t.proto, .int .i64 t.src, .int .i64 t.sport, .int .i64 t.dst, .int .i64 t.dport, .int .i64 t.kind] 52) (by simp)
        have c0 := blk_cell hg 0
        have c1 := blk_cell hg 1
        have c2 := blk_cell hg 2
        have c3 := blk_cell hg 3
        have c4 := blk_cell hg 4
        have c5 := blk_cell hg 5
        simp at c0 c1 c2 c3 c4 c5
        simp [execOp, go_sem, t8, c0, c1, c2, c3, c4, c5]
        simp only [RanS]
        exact ⟨hC, DrR.refl _, rfl⟩
      · refine ⟨rfl, fun v W ρ hC kc kf ks ki kd => ?_⟩
        have hf := fresh_not hK.out hC
        obtain ⟨q1, q2⟩ := hC.alloc hK.out (.cells #[.int .i64 (-1), .int .i64 1000000, .int .i64 1000001] 2)
        simp [execOp, go_sem, kc]
        simp only [RanS]
        exact ⟨q1, q2, W.heap.size, rfl, hf.1, hf.2, heap_newG _ _⟩
      · refine ⟨rfl, fun v W ρ hC kc kf ks ki kd => ?_⟩
        have t6 : ρ (.tmp 6) = .pointer (some ⟨B, 0, none⟩) := ki 6 (by decide)
        simp [execOp, go_sem, t6]
        simp only [RanS]
        exact ⟨hC, DrR.refl _, rfl⟩
      · refine ⟨rfl, fun v W ρ hC kc kf ks ki kd => ?_⟩
        have d3 : v 3 = .pointer (some ⟨B, 0, none⟩) := by first | exact kd _ (Array.mem_of_getElem? (i := 0) rfl) rfl | exact kd _ (Array.mem_of_getElem? (i := 1) rfl) rfl | exact kd _ (Array.mem_of_getElem? (i := 2) rfl) rfl | exact kd _ (Array.mem_of_getElem? (i := 3) rfl) rfl
        have t23 : ρ (.tmp 23) = .pointer (some ⟨B, 0, none⟩) := (ks 3 23 (by decide) rfl).trans d3
        simp [execOp, go_sem, t23, kf, kc]
        simp only [RanS]
        refine Calls.mono (srcN_any B a len cap 3 W hC.src (by omega)) (fun e x h => ?_)
        obtain ⟨r, rfl, h1, h2, h3, h4⟩ := h
        obtain ⟨q1, q2⟩ := hC.grown hK.out h3 h4.grown
        exact ⟨_, rfl, q1, q2, r, rfl, h1, by omega⟩
      · refine ⟨rfl, fun v W ρ hC kc kf ks ki kd => ?_⟩
        obtain ⟨g, d2, hgB, hgr, hg⟩ : ∃ g, v 2 = .slice (some ⟨g, 0, none⟩) 3 3 ∧ g ≠ B ∧ (∀ x ∈ [(w.heap.size, 52, (fun cs : Array Value => ∃ q : Tp, cs = #[.int .i64 q.proto, .int .i64 q.src, .int .i64 q.sport, .int .i64 q.dst, .int .i64 q.dport, .int .i64 q.kind]))], g ≠ x.1) ∧ W.heap[g]? = some (.cells #[.int .i64 (-1), .int .i64 1000000, .int .i64 1000001] 2) := by first | exact kd _ (Array.mem_of_getElem? (i := 0) rfl) rfl | exact kd _ (Array.mem_of_getElem? (i := 1) rfl) rfl | exact kd _ (Array.mem_of_getElem? (i := 2) rfl) rfl | exact kd _ (Array.mem_of_getElem? (i := 3) rfl) rfl
        have t22 : ρ (.tmp 22) = .slice (some ⟨g, 0, none⟩) 3 3 := (ks 2 22 (by decide) rfl).trans d2
        obtain ⟨n4, d4, l4, u4⟩ : ∃ n : Int, v 4 = .int .i64 n ∧ (0 : Int) ≤ n ∧ n ≤ 2 := by first | exact kd _ (Array.mem_of_getElem? (i := 0) rfl) rfl | exact kd _ (Array.mem_of_getElem? (i := 1) rfl) rfl | exact kd _ (Array.mem_of_getElem? (i := 2) rfl) rfl | exact kd _ (Array.mem_of_getElem? (i := 3) rfl) rfl
        have t24 : ρ (.tmp 24) = .int .i64 n4 := (ks 4 24 (by decide) rfl).trans d4
        obtain ⟨k, rfl⟩ : ∃ k : Nat, n4 = k := ⟨n4.toNat, by omega⟩
        have hj : (0 : Int) ≤ (k : Int) ∧ (k : Int) < 3 := by omega
        simp [execOp, go_sem, t22, t24, hj]
        simp only [RanS]
        exact ⟨hC, DrR.refl _, g, k, rfl, (show k < 3 by omega), hgB, hgr, hg⟩
      · refine ⟨rfl, fun v W ρ hC kc kf ks ki kd => ?_⟩
        obtain ⟨g, k, d5, hk, hgB, hgr, hg⟩ : ∃ g k, v 5 = .pointer (some ⟨g, k, none⟩) ∧ k < 3 ∧ g ≠ B ∧ (∀ x ∈ [(w.heap.size, 52, (fun cs : Array Value => ∃ q : Tp, cs = #[.int .i64 q.proto, .int .i64 q.src, .int .i64 q.sport, .int .i64 q.dst, .int .i64 q.dport, .int .i64 q.kind]))], g ≠ x.1) ∧ W.heap[g]? = some (.cells #[.int .i64 (-1), .int .i64 1000000, .int .i64 1000001] 2) := by first | exact kd _ (Array.mem_of_getElem? (i := 0) rfl) rfl | exact kd _ (Array.mem_of_getElem? (i := 1) rfl) rfl | exact kd _ (Array.mem_of_getElem? (i := 2) rfl) rfl | exact kd _ (Array.mem_of_getElem? (i := 3) rfl) rfl
        have t25 : ρ (.tmp 25) = .pointer (some ⟨g, k, none⟩) := (ks 5 25 (by decide) rfl).trans d5
        obtain ⟨z, z1, z2, hz⟩ := three_starts k hk
        have hc := (blk_cell hg k).trans hz
        simp [execOp, go_sem, t25, hc]
        simp only [RanS]
        exact ⟨hC, DrR.refl _, z, rfl, z1, z2⟩
      · refine ⟨rfl, fun v W ρ hC kc kf ks ki kd => ?_⟩
        have t9 : ρ (.tmp 9) = .slice bb us.length cb := ki 9 (by decide)
        simp [execOp, go_sem, t9]
        simp only [RanS]
        exact ⟨hC, DrR.refl _, rfl⟩
      · refine ⟨rfl, fun v W ρ hC kc kf ks ki kd => ?_⟩
        have d0 : v 0 = .slice aa rs.length ca := by first | exact kd _ (Array.mem_of_getElem? (i := 0) rfl) rfl | exact kd _ (Array.mem_of_getElem? (i := 1) rfl) rfl | exact kd _ (Array.mem_of_getElem? (i := 2) rfl) rfl | exact kd _ (Array.mem_of_getElem? (i := 3) rfl) rfl
        have t20 : ρ (.tmp 20) = .slice aa rs.length ca := (ks 0 20 (by decide) rfl).trans d0
        simp [execOp, go_sem, t20]
        simp only [RanS]
        exact ⟨hC, DrR.refl _, rfl⟩
      · refine ⟨rfl, fun v W ρ hC kc kf ks ki kd => ?_⟩
        have d1 : v 1 = .agg #[.int .i64 t.proto, .int .i64 t.src, .int .i64 t.sport, .int .i64 t.dst, .int .i64 t.dport, .int .i64 t.kind] := by first | exact kd _ (Array.mem_of_getElem? (i := 0) rfl) rfl | exact kd _ (Array.mem_of_getElem? (i := 1) rfl) rfl | exact kd _ (Array.mem_of_getElem? (i := 2) rfl) rfl | exact kd _ (Array.mem_of_getElem? (i := 3) rfl) rfl
        have t21 : ρ (.tmp 21) = .agg #[.int .i64 t.proto, .int .i64 t.src, .int .i64 t.sport, .int .i64 t.dst, .int .i64 t.dport, .int .i64 t.kind] := (ks 1 21 (by decide) rfl).trans d1
        have t3 : ρ (.tmp 3) = .pointer (some ⟨w.heap.size, 0, none⟩) := ki 3 (by decide)
        have hz : ∀ cs, (fun cs : Array Value => ∃ q : Tp, cs = #[.int .i64 q.proto, .int .i64 q.src, .int .i64 q.sport, .int .i64 q.dst, .int .i64 q.dport, .int .i64 q.kind]) cs → cs.size = 6 := fun cs h => by obtain ⟨q, h⟩ := h; first | (subst h; rfl) | (rw [h.1]; rfl)
        have hth := hC.there (w.heap.size) 52 (fun cs : Array Value => ∃ q : Tp, cs = #[.int .i64 q.proto, .int .i64 q.src, .int .i64 q.sport, .int .i64 q.dst, .int .i64 q.dport, .int .i64 q.kind]) 6 (by simp) hz
        have hrun := run_storeAt_mid (P := Try.prog) W (w.heap.size) 0 52 #[.int .i64 t.proto, .int .i64 t.src, .int .i64 t.sport, .int .i64 t.dst, .int .i64 t.dport, .int .i64 t.kind] hth (by kernel_rfl) (by simp [Value.oneCell'])
        obtain ⟨q1, q2⟩ := hC.store hK.out (w.heap.size) 52 (fun cs : Array Value => ∃ q : Tp, cs = #[.int .i64 q.proto, .int .i64 q.src, .int .i64 q.sport, .int .i64 q.dst, .int .i64 q.dport, .int .i64 q.kind]) #[.int .i64 t.proto, .int .i64 t.src, .int .i64 t.sport, .int .i64 t.dst, .int .i64 t.dport, .int .i64 t.kind] (by simp) (fun y hy e => by simp at hy; subst hy; rfl) ⟨t, rfl⟩ hz
        simp only [execOp, t3, t21, Sem.run_bind, hrun, Result.andThen_ok, Sem.run_pure]
        simp only [RanS]
        exact ⟨q1, q2, trivial⟩
      · refine ⟨rfl, fun v W ρ hC kc kf ks ki kd => ?_⟩
        obtain ⟨n6, d6, l6, u6⟩ : ∃ n : Int, v 6 = .int .i64 n ∧ (-1 : Int) ≤ n ∧ n ≤ 1000001 := by first | exact kd _ (Array.mem_of_getElem? (i := 0) rfl) rfl | exact kd _ (Array.mem_of_getElem? (i := 1) rfl) rfl | exact kd _ (Array.mem_of_getElem? (i := 2) rfl) rfl | exact kd _ (Array.mem_of_getElem? (i := 3) rfl) rfl
        have t26 : ρ (.tmp 26) = .int .i64 n6 := (ks 6 26 (by decide) rfl).trans d6
        simp [execOp, go_sem, t26]
        simp only [RanS]
        exact ⟨hC, DrR.refl _, n6, rfl, l6, u6⟩
      · refine ⟨rfl, fun v W ρ hC kc kf ks ki kd => ?_⟩
        have d7 : v 7 = .slice bb us.length cb := by first | exact kd _ (Array.mem_of_getElem? (i := 0) rfl) rfl | exact kd _ (Array.mem_of_getElem? (i := 1) rfl) rfl | exact kd _ (Array.mem_of_getElem? (i := 2) rfl) rfl | exact kd _ (Array.mem_of_getElem? (i := 3) rfl) rfl
        have t27 : ρ (.tmp 27) = .slice bb us.length cb := (ks 7 27 (by decide) rfl).trans d7
        simp [execOp, go_sem, t27]
        simp only [RanS]
        exact ⟨hC, DrR.refl _, rfl⟩
    case fin =>
      intro v W hC hall
      obtain ⟨x0, ⟨q0, rfl⟩, hr0⟩ := hC.res (w.heap.size, 52, (fun cs : Array Value => ∃ q : Tp, cs = #[.int .i64 q.proto, .int .i64 q.src, .int .i64 q.sport, .int .i64 q.dst, .int .i64 q.dport, .int .i64 q.kind])) (by simp)
      have e2 : v 8 = .slice aa rs.length ca := hall 8 (by decide)
      have e5 : v 11 = .slice bb us.length cb := hall 11 (by decide)
      obtain ⟨m, e4, _, _⟩ : ∃ n : Int, v 10 = .int .i64 n ∧ (-1 : Int) ≤ n ∧ n ≤ 1000001 := hall 10 (by decide)
      have HB := hidS hC.bel
      have HX1 := hidS (HRow.out W (fun x hx => hC.fix x (by simp [hx])))
      have HX2 := hidS (HRow2.out W (fun x hx => hC.fix x (by simp [hx])))
      simp [upto, Act.put]
      rw [e2, e4, e5]
      have k0 := blk_cell hr0
      clear hC hall hr0 hC0 hK e2 e4 e5
      go_wp2_with fail
      exact bodyPost_ret (v := .tuple #[.slice aa rs.length ca, .agg #[.int .i64 q0.proto, .int .i64 q0.src, .int .i64 q0.sport, .int .i64 q0.dst, .int .i64 q0.dport, .int .i64 q0.kind], .int .i64 m, .slice bb us.length cb]) (by simp [results, Try.results20, go_sem, *]) rfl ⟨⟨_, _, rs, q0, m, _, _, us, rfl, HRS.out, HUS.out, HX1.out, HX2.out⟩, HB.out⟩
/-- what is drawn for RuleFor -/
def SomeRf (e : Ending) (W : World) : Prop := ∃ (aa : Option Addr) (ca : Nat) (rs : List Rl) (z : Int) (t : Tp), e = .returned (.tuple #[.slice aa (rs : List Rl).length ca, .int .i64 z, .agg #[.int .i64 t.proto, .int .i64 t.src, .int .i64 t.sport, .int .i64 t.dst, .int .i64 t.dport, .int .i64 t.kind]]) ∧ rs.length ≤ 7 ∧ RowZ aa (flatRule rs) W
set_option maxHeartbeats 4000000 in
theorem drawRuleFor_any (a : Option Addr) (len cap : Nat) (w : World) (hR : RowAt w.heap.size a len w) (hl : len ≤ 1048576) :
    Calls Try.prog 22 #[.slice a len cap] w fun e w' => SomeRf e w' ∧ Below w.heap.size w w' := by
  have hL0 := hidS ((Below.refl w.heap.size w).alloc (Nat.le_refl _) (.cells #[.int .i64 0, .int .i64 0, .int .i64 0, .int .i64 0, .int .i64 0, .int .i64 0] 52))
  have hRR := hidS hR
  have hR0 := hidS (hR.later hL0.out)
  have hG00 : Hid ((w.alloc (.cells #[.int .i64 0, .int .i64 0, .int .i64 0, .int .i64 0, .int .i64 0, .int .i64 0] 52)).heap[w.heap.size]? = some (.cells #[.int .i64 0, .int .i64 0, .int .i64 0, .int .i64 0, .int .i64 0, .int .i64 0] 52)) := by
    show _ = _
    have := heap_newG w (.cells #[.int .i64 0, .int .i64 0, .int .i64 0, .int .i64 0, .int .i64 0, .int .i64 0] 52)
    simpa using this
  clear hR
  go_enter Try.func22, Try.ntmps22
  go_wp2_with fail
  generalize w.alloc (.cells #[.int .i64 0, .int .i64 0, .int .i64 0, .int .i64 0, .int .i64 0, .int .i64 0] 52) = w1 at hL0 hR0 hG00 ⊢
  refine (source_any a len cap w1 hR0.out hl).mono ?_
  rintro _ w2 ⟨rfl, hS2, hb2⟩
  have l0 := blk_lt hG00.out
  have hG02 := hidS (blk_later hG00.out hb2)
  have hL2 := hidS (hL0.out.trans (hb2.mono hL0.out.size))
  have HS2 := hidS hS2
  clear hb2 hL0 hR0 hG00 hS2
  generalize w1.heap.size = B at *
  go_wp2_with fail
  refine (srcRules_any B a len cap w2 HS2.out).mono ?_
  rintro _ w3 ⟨v, rfl, aa, ca, rs, rfl, hrs, hA3⟩
  have hg3 := hA3.gr
  have HS3 := hidS hA3.src
  have lB2 := hA3.lt
  obtain ⟨L1, hF3, hRow⟩ := own_fix hA3
  have HRow := hidS hRow
  have HF3 := hidS hF3
  have HRS := hidS hrs
  have hG03 := hidS ((hg3.block _ (blk_lt hG02.out) (fun e => by injection e with e; omega)).trans hG02.out)
  have hL3 := hidS (hL2.out.grown hg3 hL2.out.size (fun k e => by cases e; omega))
  have lR2 : w.heap.size < w2.heap.size := blk_lt hG02.out
  clear hA3 hRow hF3 hrs hg3 hL2 hG02 HS2
  generalize w2.heap.size = D2 at *
  go_wp2_with fail
  refine (srcN_any B a len cap 2 w3 HS3.out (by omega)).mono ?_
  rintro _ w4 ⟨n, rfl, n1, n2, hS4, hO4⟩
  have hg4 := hO4.grown
  have hG04 := hidS ((hg4.block _ (blk_lt hG03.out) (fun e => by injection e with e; omega)).trans hG03.out)
  have hL4 := hidS (hL3.out.grown hg4 hL3.out.size (fun k e => by cases e; omega))
  have HF4 := hidS (fix_grown HF3.out lB2 hg4)
  have HS4 := hidS hS4
  clear hO4 hg4 hL3 hG03 HF3 HS3 hS4
  go_wp2_with fail
  refine (srcOne_any B a len cap 12 w4 HS4.out (by omega)).mono ?_
  rintro _ w5 ⟨c, rfl, hS5, hO5⟩
  have hg5 := hO5.grown
  have hG05 := hidS ((hg5.block _ (blk_lt hG04.out) (fun e => by injection e with e; omega)).trans hG04.out)
  have hL5 := hidS (hL4.out.grown hg5 hL4.out.size (fun k e => by cases e; omega))
  have HF5 := hidS (fix_grown HF4.out lB2 hg5)
  have HS5 := hidS hS5
  clear hO5 hg5 hL4 hG04 HF4 HS4 hS5
  cases c
  · go_wp2_with fail
    refine (srcTuple_any B a len cap _ HS5.out).mono ?_
    rintro _ w8 ⟨t, rfl, hS8, hg8⟩
    have hG08 := hidS ((hg8.block _ (blk_lt hG05.out) (fun e => by injection e with e; omega)).trans hG05.out)
    have hL8 := hidS (hL5.out.grown hg8 hL5.out.size (fun k e => by cases e; omega))
    have HF8 := hidS (fix_grown HF5.out lB2 hg8)
    clear hg8 hS8 hL5 hG05 HF5 HS5
    have kR := blk_cell hG08.out
    have fR := blk_free hG08.out
    have HB2 : Hid (Below w.heap.size w (((((((w8.setCell ⟨w.heap.size, 0, none⟩ (.int .i64 t.proto)).setCell ⟨w.heap.size, 1, none⟩ (.int .i64 t.src)).setCell ⟨w.heap.size, 2, none⟩ (.int .i64 t.sport)).setCell ⟨w.heap.size, 3, none⟩ (.int .i64 t.dst)).setCell ⟨w.heap.size, 4, none⟩ (.int .i64 t.dport)).setCell ⟨w.heap.size, 5, none⟩ (.int .i64 t.kind)))) := by
      show Below _ _ _
      iterate 6 (refine below_at ?_ (Nat.le_refl _))
      exact hL8.out
    have HX : Hid (RowZ aa (flatRule rs) (((((((w8.setCell ⟨w.heap.size, 0, none⟩ (.int .i64 t.proto)).setCell ⟨w.heap.size, 1, none⟩ (.int .i64 t.src)).setCell ⟨w.heap.size, 2, none⟩ (.int .i64 t.sport)).setCell ⟨w.heap.size, 3, none⟩ (.int .i64 t.dst)).setCell ⟨w.heap.size, 4, none⟩ (.int .i64 t.dport)).setCell ⟨w.heap.size, 5, none⟩ (.int .i64 t.kind)))) := by
      refine HRow.out _ (fun x hx => ?_)
      have h1 := HF8.out x hx
      have hne : x.1 ≠ w.heap.size := by omega
      iterate 6 (rw [Below.heap_setCell _ _ _ _ hne])
      exact h1.1
    clear HF8 hG08 hL8 HRow
    go_wp2_with fail
    exact bodyPost_ret (v := .tuple #[.slice aa rs.length ca, .int .i64 (1 + n), .agg #[.int .i64 t.proto, .int .i64 t.src, .int .i64 t.sport, .int .i64 t.dst, .int .i64 t.dport, .int .i64 t.kind]]) (by simp [results, Try.results22, go_sem, *]) rfl ⟨⟨_, _, rs, _, t, rfl, HRS.out, HX.out⟩, HB2.out⟩
  · go_wp2_with fail
    refine (srcN_any B a len cap 4 _ HS5.out (by omega)).mono ?_
    rintro _ w6 ⟨z, rfl, z1, z2, hS6, hO6⟩
    have hg6 := hO6.grown
    have hG06 := hidS ((hg6.block _ (blk_lt hG05.out) (fun e => by injection e with e; omega)).trans hG05.out)
    have hL6 := hidS (hL5.out.grown hg6 hL5.out.size (fun k e => by cases e; omega))
    have HF6 := hidS (fix_grown HF5.out lB2 hg6)
    have HS6 := hidS hS6
    clear hO6 hg6 hL5 hG05 HF5 HS5 hS6
    go_wp2_with fail
    refine (srcTuple_any B a len cap _ HS6.out).mono ?_
    rintro _ w8 ⟨t, rfl, hS8, hg8⟩
    have hG08 := hidS ((hg8.block _ (blk_lt hG06.out) (fun e => by injection e with e; omega)).trans hG06.out)
    have hL8 := hidS (hL6.out.grown hg8 hL6.out.size (fun k e => by cases e; omega))
    have HF8 := hidS (fix_grown HF6.out lB2 hg8)
    clear hg8 hS8 hL6 hG06 HF6 HS6
    have kR := blk_cell hG08.out
    have fR := blk_free hG08.out
    have HB2 : Hid (Below w.heap.size w (((((((w8.setCell ⟨w.heap.size, 0, none⟩ (.int .i64 t.proto)).setCell ⟨w.heap.size, 1, none⟩ (.int .i64 t.src)).setCell ⟨w.heap.size, 2, none⟩ (.int .i64 t.sport)).setCell ⟨w.heap.size, 3, none⟩ (.int .i64 t.dst)).setCell ⟨w.heap.size, 4, none⟩ (.int .i64 t.dport)).setCell ⟨w.heap.size, 5, none⟩ (.int .i64 t.kind)))) := by
      show Below _ _ _
      iterate 6 (refine below_at ?_ (Nat.le_refl _))
      exact hL8.out
    have HX : Hid (RowZ aa (flatRule rs) (((((((w8.setCell ⟨w.heap.size, 0, none⟩ (.int .i64 t.proto)).setCell ⟨w.heap.size, 1, none⟩ (.int .i64 t.src)).setCell ⟨w.heap.size, 2, none⟩ (.int .i64 t.sport)).setCell ⟨w.heap.size, 3, none⟩ (.int .i64 t.dst)).setCell ⟨w.heap.size, 4, none⟩ (.int .i64 t.dport)).setCell ⟨w.heap.size, 5, none⟩ (.int .i64 t.kind)))) := by
      refine HRow.out _ (fun x hx => ?_)
      have h1 := HF8.out x hx
      have hne : x.1 ≠ w.heap.size := by omega
      iterate 6 (rw [Below.heap_setCell _ _ _ _ hne])
      exact h1.1
    clear HF8 hG08 hL8 HRow
    go_wp2_with fail
    exact bodyPost_ret (v := .tuple #[.slice aa rs.length ca, .int .i64 (z), .agg #[.int .i64 t.proto, .int .i64 t.src, .int .i64 t.sport, .int .i64 t.dst, .int .i64 t.dport, .int .i64 t.kind]]) (by simp [results, Try.results22, go_sem, *]) rfl ⟨⟨_, _, rs, _, t, rfl, HRS.out, HX.out⟩, HB2.out⟩
end Go.Proofs.Ytilajoafppplcaa
