/- Proved here: spec.DrawTupleHash draws a tuple, a key of at most 21 bytes and a number; all old memory stays (condition: the bytes that are drawn from can be read, at most 2^20). -/
import Derived.Test.YtedknnkdnccfmaaGreatDoorTpDraws
import Derived.Test.YtedknnkdnccfmaaGreatDoorAll4
namespace Go.Proofs.YtedknnkdnccfmaaGreatDoor
open Go.ChangeShapes Go.WideShapes Go.ChangeAt Go.RowKit
set_option linter.unusedVariables false
set_option linter.unusedSimpArgs false
set_option maxRecDepth 100000

/-- so many bytes 0 -/
def zerosN (k : Nat) : ByteArray := ⟨(List.replicate k 0).toArray⟩
theorem zerosN_size (k : Nat) : (zerosN k).size = k := by show (List.replicate k (0 : UInt8)).toArray.size = _; simp
theorem zeros_makeN (k : Nat) (hk : k ≤ 1000) (W : World) : (Instr.makeSlice 22 (.int .i64 (k : Int)) (.int .i64 (k : Int))).run Tryz.prog W = .ok (.slice (some ⟨W.heap.size, 0, none⟩) k k) (W.alloc (.cells (madeCells #[.int .u8 0] k) 5)) :=
  run_make_row' (P := Tryz.prog) 22 5 (.int .u8 0) 1 Tryz.underlying22 Tryz.infoU8 rfl .i64 .i64 k (by omega) (by omega) W
theorem zeros_convN (g k : Nat) (W : World) (hg : W.heap[g]? = some (.cells (madeCells #[.int .u8 0] k) 5)) : (convert 22 9 (.slice (some ⟨g, 0, none⟩) k k)).run Tryz.prog W = .ok (.string (zerosN k)) W := by
  have h := run_convert_bytes_back (P := Tryz.prog) W 22 9 5 ⟨g, 0, none⟩ k (List.replicate k 0) Tryz.underlying22 Tryz.underlying5 Tryz.underlying9 (fun j hj => by
    rw [Addr.add_lit, Nat.zero_add, blk_cell hg j]
    have hj' : j < k := by simpa using hj
    simp [madeCells, hj', Nat.mod_one])
  rw [List.length_replicate] at h
  exact h
def zerosR (B : Nat) (rs : List (Nat × TypeId × (Array Value → Prop))) (m : Nat) : Kp := fun v W => ∃ g N, v = .slice (some ⟨g, 0, none⟩) N N ∧ N ≤ m ∧ g ≠ B ∧ (∀ x ∈ rs, g ≠ x.1) ∧ W.heap[g]? = some (.cells (madeCells #[.int .u8 0] N) 5)
theorem zerosR_last {B : Nat} {rs : List (Nat × TypeId × (Array Value → Prop))} (m : Nat) : LastsR B rs (zerosR B rs m) := fun v W W' h hR => by
  obtain ⟨g, N, e, hN, h1, h2, h3⟩ := h; exact ⟨g, N, e, hN, h1, h2, (hR g (blk_lt h3) h1 h2).trans h3⟩
theorem many_cells (j : Nat) (h : j < 4) : ∃ z : Int, 0 ≤ z ∧ z ≤ 65 ∧ (#[.int .i64 0, .int .i64 1, .int .i64 64, .int .i64 65] : Array Value)[j]? = some (.int .i64 z) := by
  rcases (by omega : j = 0 ∨ j = 1 ∨ j = 2 ∨ j = 3) with rfl | rfl | rfl | rfl
  all_goals exact ⟨_, by decide, by decide, rfl⟩
/-- some tuple, some key, some number -/
def SomeTKN (e : Ending) : Prop := ∃ (t : Tp) (k : ByteArray) (n : Int), e = .returned (.tuple #[.agg #[.int .i64 t.proto, .int .i64 t.src, .int .i64 t.sport, .int .i64 t.dst, .int .i64 t.dport, .int .i64 t.kind], .string k, .int .i64 n]) ∧ k.size ≤ 21
set_option maxHeartbeats 4000000 in
theorem drawTupleHash_any (a : Option Addr) (len cap : Nat) (w : World) (hR : RowAt w.heap.size a len w) (hl : len ≤ 1048576) :
    Calls Tryz.prog 25 #[.slice a len cap] w fun e w' => SomeTKN e ∧ Below w.heap.size w w' := by
  have hL0 := hidS ((Below.refl w.heap.size w).alloc (Nat.le_refl _) (.cells #[.int .i64 0, .int .i64 0, .int .i64 0, .int .i64 0, .int .i64 0, .int .i64 0] 40))
  have hRR := hidS hR
  have hR0 := hidS (hR.later hL0.out)
  have hG00 : Hid ((w.alloc (.cells #[.int .i64 0, .int .i64 0, .int .i64 0, .int .i64 0, .int .i64 0, .int .i64 0] 40)).heap[w.heap.size]? = some (.cells #[.int .i64 0, .int .i64 0, .int .i64 0, .int .i64 0, .int .i64 0, .int .i64 0] 40)) := by
    show _ = _
    have := heap_newG w (.cells #[.int .i64 0, .int .i64 0, .int .i64 0, .int .i64 0, .int .i64 0, .int .i64 0] 40)
    simpa using this
  clear hR
  go_enter Tryz.func25, Tryz.ntmps25
  go_wp2_with fail
  generalize w.alloc (.cells #[.int .i64 0, .int .i64 0, .int .i64 0, .int .i64 0, .int .i64 0, .int .i64 0] 40) = w1 at hL0 hR0 hG00 ⊢
  refine (source_any a len cap w1 hR0.out hl).mono ?_
  rintro _ w2 ⟨rfl, hS2, hb2⟩
  have l0 := blk_lt hG00.out
  have hG02 := hidS (blk_later hG00.out hb2)
  have hL2 := hidS (hL0.out.trans (hb2.mono hL0.out.size))
  have HS2 := hidS hS2
  clear hb2 hL0 hR0 hG00 hS2
  generalize w1.heap.size = B at *
  go_wp2_with fail
  refine (srcTuple_any B a len cap w2 HS2.out).mono ?_
  rintro _ w3 ⟨t, rfl, hS3, hg3⟩
  have hG03 := hidS ((hg3.block _ (blk_lt hG02.out) (fun e => by injection e with e; omega)).trans hG02.out)
  have hL3 := hidS (hL2.out.grown hg3 hL2.out.size (fun k e => by cases e; omega))
  have hBl := hS3.lt
  have HS4 := hidS (hS3.kept (w' := w3.alloc (.cells #[.int .i64 t.proto, .int .i64 t.src, .int .i64 t.sport, .int .i64 t.dst, .int .i64 t.dport, .int .i64 t.kind] 40)) fun k hk => Below.heap_alloc _ _ _ (by omega))
  have hL4 := hidS (hL3.out.alloc hL3.out.size (.cells #[.int .i64 t.proto, .int .i64 t.src, .int .i64 t.sport, .int .i64 t.dst, .int .i64 t.dport, .int .i64 t.kind] 40))
  have hG04 := hidS (blk_alloc hG03.out (.cells #[.int .i64 t.proto, .int .i64 t.src, .int .i64 t.sport, .int .i64 t.dst, .int .i64 t.dport, .int .i64 t.kind] 40))
  have hT4 := hidS (heap_newG w3 (.cells #[.int .i64 t.proto, .int .i64 t.src, .int .i64 t.sport, .int .i64 t.dst, .int .i64 t.dport, .int .i64 t.kind] 40))
  have lg : w.heap.size < w3.heap.size := blk_lt hG03.out
  clear hg3 hL2 hG02 HS2 hS3 hL3 hG03
  go_upto_region 3 with fail
  generalize w3.alloc (.cells #[.int .i64 t.proto, .int .i64 t.src, .int .i64 t.sport, .int .i64 t.dst, .int .i64 t.dport, .int .i64 t.kind] 40) = w4 at HS4 hL4 hG04 hT4 ⊢
  generalize w3.heap.size = g at *
  go_wp2_with fail
  refine (srcN_any B a len cap 9 w4 HS4.out (by omega)).mono ?_
  rintro _ w5 ⟨n, rfl, hn1, hn2, hS5, hO5⟩
  have hn3 : n ≤ 8 := by omega
  have hg5 := hO5.grown
  have hG05 := hidS ((hg5.block _ (blk_lt hG04.out) (fun e => by injection e with e; omega)).trans hG04.out)
  have hL5 := hidS (hL4.out.grown hg5 hL4.out.size (fun k e => by cases e; omega))
  have hT5 := hidS ((hg5.block _ (blk_lt hT4.out) (fun e => by injection e with e; omega)).trans hT4.out)
  have HS5 := hidS hS5
  clear hO5 hg5 HS4 hL4 hG04 hT4 hS5 hn2
  go_wp2_with fail
  refine (srcBytes_g B a len cap n w5 HS5.out (by omega)).mono ?_
  rintro _ w6 ⟨k, rfl, hk, hS6, hg6⟩
  have hk2 : k.size ≤ 21 := by omega
  have hG06 := hidS ((hg6.block _ (blk_lt hG05.out) (fun e => by injection e with e; omega)).trans hG05.out)
  have hL6 := hidS (hL5.out.grown hg6 hL5.out.size (fun k e => by cases e; omega))
  have hT6 := hidS ((hg6.block _ (blk_lt hT5.out) (fun e => by injection e with e; omega)).trans hT5.out)
  have HS6 := hidS hS6
  have HK2 := hidS hk2
  clear hg6 HS5 hL5 hG05 hT5 hS6 hk hk2 hn1 hn3
  go_wp2_with fail
  refine (srcOne_any B a len cap 8 w6 HS6.out (by omega)).mono ?_
  rintro _ w7 ⟨c, rfl, hS7, hO7⟩
  have hg7 := hO7.grown
  have hG07 := hidS ((hg7.block _ (blk_lt hG06.out) (fun e => by injection e with e; omega)).trans hG06.out)
  have hL7 := hidS (hL6.out.grown hg7 hL6.out.size (fun k e => by cases e; omega))
  have hT7 := hidS ((hg7.block _ (blk_lt hT6.out) (fun e => by injection e with e; omega)).trans hT6.out)
  have HS7 := hidS hS7
  clear hO7 hg7 HS6 hL6 hG06 hT6 hS7
  have hK : Hid (DrOk B a len w [(g, .cells #[.int .i64 t.proto, .int .i64 t.src, .int .i64 t.sport, .int .i64 t.dst, .int .i64 t.dport, .int .i64 t.kind] 40)] [(w.heap.size, 40, (fun cs : Array Value => ∃ q : Tp, cs = #[.int .i64 q.proto, .int .i64 q.src, .int .i64 q.sport, .int .i64 q.dst, .int .i64 q.dport, .int .i64 q.kind]))]) := by
    refine ⟨hRR.out, by omega, ?_, ?_, ?_⟩ <;> intro x hx <;> simp at hx <;> subst hx
    · simp; omega
    · constructor <;> (simp <;> omega)
    · intro y hy; simp at hy; subst hy; simp; omega
  have hC0 : Hid (DrC B a len cap w [(g, .cells #[.int .i64 t.proto, .int .i64 t.src, .int .i64 t.sport, .int .i64 t.dst, .int .i64 t.dport, .int .i64 t.kind] 40)] [(w.heap.size, 40, (fun cs : Array Value => ∃ q : Tp, cs = #[.int .i64 q.proto, .int .i64 q.src, .int .i64 q.sport, .int .i64 q.dst, .int .i64 q.dport, .int .i64 q.kind]))] w7.drew) := by
    refine ⟨HS7.out, hL7.out.drew, fun x hx => ?_, fun x hx => ?_⟩
    · simp at hx; subst hx; exact hT7.out
    · simp at hx; subst hx; exact ⟨_, ⟨zeroTp, rfl⟩, hG07.out⟩
  clear HS7 hL7 hG07 hT7
  cases c
  · go_wp2_with fail
    refine grow_res (DrC B a len cap w [(g, .cells #[.int .i64 t.proto, .int .i64 t.src, .int .i64 t.sport, .int .i64 t.dst, .int .i64 t.dport, .int .i64 t.kind] 40)] [(w.heap.size, 40, (fun cs : Array Value => ∃ q : Tp, cs = #[.int .i64 q.proto, .int .i64 q.src, .int .i64 q.sport, .int .i64 q.dst, .int .i64 q.dport, .int .i64 q.kind]))]) (DrR B [(w.heap.size, 40, (fun cs : Array Value => ∃ q : Tp, cs = #[.int .i64 q.proto, .int .i64 q.src, .int .i64 q.sport, .int .i64 q.dst, .int .i64 q.dport, .int .i64 q.kind]))]) (kpOf [isP (.agg #[.int .i64 t.proto, .int .i64 t.src, .int .i64 t.sport, .int .i64 t.dst, .int .i64 t.dport, .int .i64 t.kind]), isP (.string k), isP (.pointer (some ⟨B, 0, none⟩)), (fun v _ => ∃ n : Int, v = .int .i64 n ∧ (0 : Int) ≤ n ∧ n ≤ 15), (fun v _ => ∃ n : Int, v = .int .i64 n ∧ (1 : Int) ≤ n ∧ n ≤ 16), anyP, isP (.string k), (fun v _ => ∃ n : Int, v = .int .i64 n ∧ (1 : Int) ≤ n ∧ n ≤ 16)]) (by kernel_rfl) (by kernel_rfl) (all_lastR _ ⟨pure_last, pure_last, pure_last, pure_last, pure_last, pure_last, pure_last, pure_last, trivial⟩) hC0.out ?steps ?fin
    case steps =>
      refine ⟨?_, ?_, ?_, ?_, ?_, ?_, ?_, ?_, trivial⟩
      · refine ⟨rfl, fun v W ρ hC kc kf ks ki kd => ?_⟩
        have t6 : ρ (.tmp 6) = .pointer (some ⟨g, 0, none⟩) := ki 6 (by decide)
        have hg := hC.fix (g, .cells #[.int .i64 t.proto, .int .i64 t.src, .int .i64 t.sport, .int .i64 t.dst, .int .i64 t.dport, .int .i64 t.kind] 40) (by simp)
        have c0 := blk_cell hg 0
        have c1 := blk_cell hg 1
        have c2 := blk_cell hg 2
        have c3 := blk_cell hg 3
        have c4 := blk_cell hg 4
        have c5 := blk_cell hg 5
        simp at c0 c1 c2 c3 c4 c5
        simp [execOp, go_sem, t6, c0, c1, c2, c3, c4, c5]
        simp only [RanS]
        exact ⟨hC, DrR.refl _, rfl⟩
      · refine ⟨rfl, fun v W ρ hC kc kf ks ki kd => ?_⟩
        have t7 : ρ (.tmp 7) = .string k := ki 7 (by decide)
        simp [execOp, go_sem, t7]
        simp only [RanS]
        exact ⟨hC, DrR.refl _, rfl⟩
      · refine ⟨rfl, fun v W ρ hC kc kf ks ki kd => ?_⟩
        have t5 : ρ (.tmp 5) = .pointer (some ⟨B, 0, none⟩) := ki 5 (by decide)
        simp [execOp, go_sem, t5]
        simp only [RanS]
        exact ⟨hC, DrR.refl _, rfl⟩
      · refine ⟨rfl, fun v W ρ hC kc kf ks ki kd => ?_⟩
        have d2 : v 2 = .pointer (some ⟨B, 0, none⟩) := by first | exact kd _ (Array.mem_of_getElem? (i := 0) rfl) rfl | exact kd _ (Array.mem_of_getElem? (i := 1) rfl) rfl | exact kd _ (Array.mem_of_getElem? (i := 2) rfl) rfl | exact kd _ (Array.mem_of_getElem? (i := 3) rfl) rfl
        have t31 : ρ (.tmp 31) = .pointer (some ⟨B, 0, none⟩) := (ks 2 31 (by decide) rfl).trans d2
        simp [execOp, go_sem, t31, kf, kc]
        simp only [RanS]
        refine Calls.mono (srcN_any B a len cap 16 W hC.src (by omega)) (fun e x h => ?_)
        obtain ⟨r, rfl, h1, h2, h3, h4⟩ := h
        obtain ⟨q1, q2⟩ := hC.grown hK.out h3 h4.grown
        exact ⟨_, rfl, q1, q2, r, rfl, h1, by omega⟩
      · refine ⟨rfl, fun v W ρ hC kc kf ks ki kd => ?_⟩
        obtain ⟨n3, d3, l3, u3⟩ : ∃ n : Int, v 3 = .int .i64 n ∧ (0 : Int) ≤ n ∧ n ≤ 15 := by first | exact kd _ (Array.mem_of_getElem? (i := 0) rfl) rfl | exact kd _ (Array.mem_of_getElem? (i := 1) rfl) rfl | exact kd _ (Array.mem_of_getElem? (i := 2) rfl) rfl | exact kd _ (Array.mem_of_getElem? (i := 3) rfl) rfl
        have t32 : ρ (.tmp 32) = .int .i64 n3 := (ks 3 32 (by decide) rfl).trans d3
        have hw : IntKind.i64.wrap (1 + n3) = 1 + n3 := IntWalk.i64_in _ (by omega)
        simp [execOp, go_sem, t32, kc, hw]
        simp only [RanS]
        exact ⟨hC, DrR.refl _, 1 + n3, rfl, by omega, by omega⟩
      · refine ⟨rfl, fun v W ρ hC kc kf ks ki kd => ?_⟩
        have d0 : v 0 = .agg #[.int .i64 t.proto, .int .i64 t.src, .int .i64 t.sport, .int .i64 t.dst, .int .i64 t.dport, .int .i64 t.kind] := by first | exact kd _ (Array.mem_of_getElem? (i := 0) rfl) rfl | exact kd _ (Array.mem_of_getElem? (i := 1) rfl) rfl | exact kd _ (Array.mem_of_getElem? (i := 2) rfl) rfl | exact kd _ (Array.mem_of_getElem? (i := 3) rfl) rfl
        have t29 : ρ (.tmp 29) = .agg #[.int .i64 t.proto, .int .i64 t.src, .int .i64 t.sport, .int .i64 t.dst, .int .i64 t.dport, .int .i64 t.kind] := (ks 0 29 (by decide) rfl).trans d0
        have t2 : ρ (.tmp 2) = .pointer (some ⟨w.heap.size, 0, none⟩) := ki 2 (by decide)
        have hz : ∀ cs, (fun cs : Array Value => ∃ q : Tp, cs = #[.int .i64 q.proto, .int .i64 q.src, .int .i64 q.sport, .int .i64 q.dst, .int .i64 q.dport, .int .i64 q.kind]) cs → cs.size = 6 := fun cs h => by obtain ⟨q, h⟩ := h; first | (subst h; rfl) | (rw [h.1]; rfl)
        have hth := hC.there (w.heap.size) 40 (fun cs : Array Value => ∃ q : Tp, cs = #[.int .i64 q.proto, .int .i64 q.src, .int .i64 q.sport, .int .i64 q.dst, .int .i64 q.dport, .int .i64 q.kind]) 6 (by simp) hz
        have hrun := run_storeAt_mid (P := Tryz.prog) W (w.heap.size) 0 40 #[.int .i64 t.proto, .int .i64 t.src, .int .i64 t.sport, .int .i64 t.dst, .int .i64 t.dport, .int .i64 t.kind] hth (by kernel_rfl) (by simp [Value.oneCell'])
        obtain ⟨q1, q2⟩ := hC.store hK.out (w.heap.size) 40 (fun cs : Array Value => ∃ q : Tp, cs = #[.int .i64 q.proto, .int .i64 q.src, .int .i64 q.sport, .int .i64 q.dst, .int .i64 q.dport, .int .i64 q.kind]) #[.int .i64 t.proto, .int .i64 t.src, .int .i64 t.sport, .int .i64 t.dst, .int .i64 t.dport, .int .i64 t.kind] (by simp) (fun y hy e => by simp at hy; subst hy; rfl) ⟨t, rfl⟩ hz
        simp only [execOp, t2, t29, Sem.run_bind, hrun, Result.andThen_ok, Sem.run_pure]
        simp only [RanS]
        exact ⟨q1, q2, trivial⟩
      · refine ⟨rfl, fun v W ρ hC kc kf ks ki kd => ?_⟩
        have d1 : v 1 = .string k := by first | exact kd _ (Array.mem_of_getElem? (i := 0) rfl) rfl | exact kd _ (Array.mem_of_getElem? (i := 1) rfl) rfl | exact kd _ (Array.mem_of_getElem? (i := 2) rfl) rfl | exact kd _ (Array.mem_of_getElem? (i := 3) rfl) rfl
        have t30 : ρ (.tmp 30) = .string k := (ks 1 30 (by decide) rfl).trans d1
        simp [execOp, go_sem, t30]
        simp only [RanS]
        exact ⟨hC, DrR.refl _, rfl⟩
      · refine ⟨rfl, fun v W ρ hC kc kf ks ki kd => ?_⟩
        obtain ⟨n4, d4, l4, u4⟩ : ∃ n : Int, v 4 = .int .i64 n ∧ (1 : Int) ≤ n ∧ n ≤ 16 := by first | exact kd _ (Array.mem_of_getElem? (i := 0) rfl) rfl | exact kd _ (Array.mem_of_getElem? (i := 1) rfl) rfl | exact kd _ (Array.mem_of_getElem? (i := 2) rfl) rfl | exact kd _ (Array.mem_of_getElem? (i := 3) rfl) rfl
        have t33 : ρ (.tmp 33) = .int .i64 n4 := (ks 4 33 (by decide) rfl).trans d4
        simp [execOp, go_sem, t33]
        simp only [RanS]
        exact ⟨hC, DrR.refl _, n4, rfl, l4, u4⟩
    case fin =>
      intro v W hC hall
      obtain ⟨x0, ⟨q0, rfl⟩, hr0⟩ := hC.res (w.heap.size, 40, (fun cs : Array Value => ∃ q : Tp, cs = #[.int .i64 q.proto, .int .i64 q.src, .int .i64 q.sport, .int .i64 q.dst, .int .i64 q.dport, .int .i64 q.kind])) (by simp)
      have e3 : v 6 = .string k := hall 6 (by decide)
      obtain ⟨m, e4, _, _⟩ : ∃ n : Int, v 7 = .int .i64 n ∧ (1 : Int) ≤ n ∧ n ≤ 16 := hall 7 (by decide)
      have HB := hidS hC.bel
      simp [upto, Act.put]
      rw [e3, e4]
      have k0 := blk_cell hr0
      clear hC hall hr0 hC0 hK e3 e4
      go_wp2_with fail
      exact bodyPost_ret (v := .tuple #[.agg #[.int .i64 q0.proto, .int .i64 q0.src, .int .i64 q0.sport, .int .i64 q0.dst, .int .i64 q0.dport, .int .i64 q0.kind], .string k, .int .i64 m]) (by simp [results, Tryz.results25, go_sem, *]) rfl ⟨⟨q0, k, m, rfl, HK2.out⟩, HB.out⟩
  · go_wp2_with fail
    refine grow_res (DrC B a len cap w [(g, .cells #[.int .i64 t.proto, .int .i64 t.src, .int .i64 t.sport, .int .i64 t.dst, .int .i64 t.dport, .int .i64 t.kind] 40)] [(w.heap.size, 40, (fun cs : Array Value => ∃ q : Tp, cs = #[.int .i64 q.proto, .int .i64 q.src, .int .i64 q.sport, .int .i64 q.dst, .int .i64 q.dport, .int .i64 q.kind]))]) (DrR B [(w.heap.size, 40, (fun cs : Array Value => ∃ q : Tp, cs = #[.int .i64 q.proto, .int .i64 q.src, .int .i64 q.sport, .int .i64 q.dst, .int .i64 q.dport, .int .i64 q.kind]))]) (kpOf [isP (.agg #[.int .i64 t.proto, .int .i64 t.src, .int .i64 t.sport, .int .i64 t.dst, .int .i64 t.dport, .int .i64 t.kind]), isP (.pointer (some ⟨B, 0, none⟩)), (fun v _ => ∃ n : Int, v = .int .i64 n ∧ (0 : Int) ≤ n ∧ n ≤ 1), (fun v _ => ∃ n : Int, v = .int .i64 n ∧ (20 : Int) ≤ n ∧ n ≤ 21), zerosR B [(w.heap.size, 40, (fun cs : Array Value => ∃ q : Tp, cs = #[.int .i64 q.proto, .int .i64 q.src, .int .i64 q.sport, .int .i64 q.dst, .int .i64 q.dport, .int .i64 q.kind]))] 21, (fun v _ => ∃ s : ByteArray, v = .string s ∧ s.size ≤ 21), rowR B [(w.heap.size, 40, (fun cs : Array Value => ∃ q : Tp, cs = #[.int .i64 q.proto, .int .i64 q.src, .int .i64 q.sport, .int .i64 q.dst, .int .i64 q.dport, .int .i64 q.kind]))] #[.int .i64 0, .int .i64 1, .int .i64 64, .int .i64 65] 2, isP (.pointer (some ⟨B, 0, none⟩)), (fun v _ => ∃ n : Int, v = .int .i64 n ∧ (0 : Int) ≤ n ∧ n ≤ 3), ptrR B [(w.heap.size, 40, (fun cs : Array Value => ∃ q : Tp, cs = #[.int .i64 q.proto, .int .i64 q.src, .int .i64 q.sport, .int .i64 q.dst, .int .i64 q.dport, .int .i64 q.kind]))] #[.int .i64 0, .int .i64 1, .int .i64 64, .int .i64 65] 2, (fun v _ => ∃ n : Int, v = .int .i64 n ∧ (0 : Int) ≤ n ∧ n ≤ 65), anyP, (fun v _ => ∃ s : ByteArray, v = .string s ∧ s.size ≤ 21), (fun v _ => ∃ n : Int, v = .int .i64 n ∧ (0 : Int) ≤ n ∧ n ≤ 65)]) (by kernel_rfl) (by kernel_rfl) (all_lastR _ ⟨pure_last, pure_last, pure_last, pure_last, zerosR_last _, pure_last, rowR_last _ _, pure_last, pure_last, ptrR_last _ _, pure_last, pure_last, pure_last, pure_last, trivial⟩) hC0.out ?steps ?fin
    case steps =>
      refine ⟨?_, ?_, ?_, ?_, ?_, ?_, ?_, ?_, ?_, ?_, ?_, ?_, ?_, ?_, trivial⟩
      · refine ⟨rfl, fun v W ρ hC kc kf ks ki kd => ?_⟩
        have t6 : ρ (.tmp 6) = .pointer (some ⟨g, 0, none⟩) := ki 6 (by decide)
        have hg := hC.fix (g, .cells #[.int .i64 t.proto, .int .i64 t.src, .int .i64 t.sport, .int .i64 t.dst, .int .i64 t.dport, .int .i64 t.kind] 40) (by simp)
        have c0 := blk_cell hg 0
        have c1 := blk_cell hg 1
        have c2 := blk_cell hg 2
        have c3 := blk_cell hg 3
        have c4 := blk_cell hg 4
        have c5 := blk_cell hg 5
        simp at c0 c1 c2 c3 c4 c5
        simp [execOp, go_sem, t6, c0, c1, c2, c3, c4, c5]
        simp only [RanS]
        exact ⟨hC, DrR.refl _, rfl⟩
      · refine ⟨rfl, fun v W ρ hC kc kf ks ki kd => ?_⟩
        have t5 : ρ (.tmp 5) = .pointer (some ⟨B, 0, none⟩) := ki 5 (by decide)
        simp [execOp, go_sem, t5]
        simp only [RanS]
        exact ⟨hC, DrR.refl _, rfl⟩
      · refine ⟨rfl, fun v W ρ hC kc kf ks ki kd => ?_⟩
        have d1 : v 1 = .pointer (some ⟨B, 0, none⟩) := by first | exact kd _ (Array.mem_of_getElem? (i := 0) rfl) rfl | exact kd _ (Array.mem_of_getElem? (i := 1) rfl) rfl | exact kd _ (Array.mem_of_getElem? (i := 2) rfl) rfl | exact kd _ (Array.mem_of_getElem? (i := 3) rfl) rfl
        have t19 : ρ (.tmp 19) = .pointer (some ⟨B, 0, none⟩) := (ks 1 19 (by decide) rfl).trans d1
        simp [execOp, go_sem, t19, kf, kc]
        simp only [RanS]
        refine Calls.mono (srcN_any B a len cap 2 W hC.src (by omega)) (fun e x h => ?_)
        obtain ⟨r, rfl, h1, h2, h3, h4⟩ := h
        obtain ⟨q1, q2⟩ := hC.grown hK.out h3 h4.grown
        exact ⟨_, rfl, q1, q2, r, rfl, h1, by omega⟩
      · refine ⟨rfl, fun v W ρ hC kc kf ks ki kd => ?_⟩
        obtain ⟨n2, d2, l2, u2⟩ : ∃ n : Int, v 2 = .int .i64 n ∧ (0 : Int) ≤ n ∧ n ≤ 1 := by first | exact kd _ (Array.mem_of_getElem? (i := 0) rfl) rfl | exact kd _ (Array.mem_of_getElem? (i := 1) rfl) rfl | exact kd _ (Array.mem_of_getElem? (i := 2) rfl) rfl | exact kd _ (Array.mem_of_getElem? (i := 3) rfl) rfl
        have t20 : ρ (.tmp 20) = .int .i64 n2 := (ks 2 20 (by decide) rfl).trans d2
        have hw : IntKind.i64.wrap (20 + n2) = 20 + n2 := IntWalk.i64_in _ (by omega)
        simp [execOp, go_sem, t20, kc, hw]
        simp only [RanS]
        exact ⟨hC, DrR.refl _, 20 + n2, rfl, by omega, by omega⟩
      · refine ⟨rfl, fun v W ρ hC kc kf ks ki kd => ?_⟩
        obtain ⟨n3, d3, l3, u3⟩ : ∃ n : Int, v 3 = .int .i64 n ∧ (20 : Int) ≤ n ∧ n ≤ 21 := by first | exact kd _ (Array.mem_of_getElem? (i := 0) rfl) rfl | exact kd _ (Array.mem_of_getElem? (i := 1) rfl) rfl | exact kd _ (Array.mem_of_getElem? (i := 2) rfl) rfl | exact kd _ (Array.mem_of_getElem? (i := 3) rfl) rfl
        have t21 : ρ (.tmp 21) = .int .i64 n3 := (ks 3 21 (by decide) rfl).trans d3
        have hf := fresh_not hK.out hC
        obtain ⟨N, rfl⟩ : ∃ N : Nat, n3 = N := ⟨n3.toNat, by omega⟩
        have hm := zeros_makeN N (by omega) W
        obtain ⟨q1, q2⟩ := hC.alloc hK.out (.cells (madeCells #[.int .u8 0] N) 5)
        simp [execOp, go_sem, t21, hm]
        simp only [RanS]
        exact ⟨q1, q2, W.heap.size, N, rfl, by omega, hf.1, hf.2, heap_newG _ _⟩
      · refine ⟨rfl, fun v W ρ hC kc kf ks ki kd => ?_⟩
        obtain ⟨g, N, d4, hN, hgB, hgr, hg⟩ : ∃ g N, v 4 = .slice (some ⟨g, 0, none⟩) N N ∧ N ≤ 21 ∧ g ≠ B ∧ (∀ x ∈ [(w.heap.size, 40, (fun cs : Array Value => ∃ q : Tp, cs = #[.int .i64 q.proto, .int .i64 q.src, .int .i64 q.sport, .int .i64 q.dst, .int .i64 q.dport, .int .i64 q.kind]))], g ≠ x.1) ∧ W.heap[g]? = some (.cells (madeCells #[.int .u8 0] N) 5) := by first | exact kd _ (Array.mem_of_getElem? (i := 0) rfl) rfl | exact kd _ (Array.mem_of_getElem? (i := 1) rfl) rfl | exact kd _ (Array.mem_of_getElem? (i := 2) rfl) rfl | exact kd _ (Array.mem_of_getElem? (i := 3) rfl) rfl
        have t22 : ρ (.tmp 22) = .slice (some ⟨g, 0, none⟩) N N := (ks 4 22 (by decide) rfl).trans d4
        have hcv := zeros_convN g N W hg
        simp [execOp, go_sem, t22, hcv]
        simp only [RanS]
        exact ⟨hC, DrR.refl _, _, rfl, by rw [zerosN_size]; exact hN⟩
      · refine ⟨rfl, fun v W ρ hC kc kf ks ki kd => ?_⟩
        have hf := fresh_not hK.out hC
        obtain ⟨q1, q2⟩ := hC.alloc hK.out (.cells #[.int .i64 0, .int .i64 1, .int .i64 64, .int .i64 65] 2)
        simp [execOp, go_sem, kc]
        simp only [RanS]
        exact ⟨q1, q2, W.heap.size, rfl, hf.1, hf.2, heap_newG _ _⟩
      · refine ⟨rfl, fun v W ρ hC kc kf ks ki kd => ?_⟩
        have t5 : ρ (.tmp 5) = .pointer (some ⟨B, 0, none⟩) := ki 5 (by decide)
        simp [execOp, go_sem, t5]
        simp only [RanS]
        exact ⟨hC, DrR.refl _, rfl⟩
      · refine ⟨rfl, fun v W ρ hC kc kf ks ki kd => ?_⟩
        have d7 : v 7 = .pointer (some ⟨B, 0, none⟩) := by first | exact kd _ (Array.mem_of_getElem? (i := 0) rfl) rfl | exact kd _ (Array.mem_of_getElem? (i := 1) rfl) rfl | exact kd _ (Array.mem_of_getElem? (i := 2) rfl) rfl | exact kd _ (Array.mem_of_getElem? (i := 3) rfl) rfl
        have t25 : ρ (.tmp 25) = .pointer (some ⟨B, 0, none⟩) := (ks 7 25 (by decide) rfl).trans d7
        simp [execOp, go_sem, t25, kf, kc]
        simp only [RanS]
        refine Calls.mono (srcN_any B a len cap 4 W hC.src (by omega)) (fun e x h => ?_)
        obtain ⟨r, rfl, h1, h2, h3, h4⟩ := h
        obtain ⟨q1, q2⟩ := hC.grown hK.out h3 h4.grown
        exact ⟨_, rfl, q1, q2, r, rfl, h1, by omega⟩
      · refine ⟨rfl, fun v W ρ hC kc kf ks ki kd => ?_⟩
        obtain ⟨g, d6, hgB, hgr, hg⟩ : ∃ g, v 6 = .slice (some ⟨g, 0, none⟩) 4 4 ∧ g ≠ B ∧ (∀ x ∈ [(w.heap.size, 40, (fun cs : Array Value => ∃ q : Tp, cs = #[.int .i64 q.proto, .int .i64 q.src, .int .i64 q.sport, .int .i64 q.dst, .int .i64 q.dport, .int .i64 q.kind]))], g ≠ x.1) ∧ W.heap[g]? = some (.cells #[.int .i64 0, .int .i64 1, .int .i64 64, .int .i64 65] 2) := by first | exact kd _ (Array.mem_of_getElem? (i := 0) rfl) rfl | exact kd _ (Array.mem_of_getElem? (i := 1) rfl) rfl | exact kd _ (Array.mem_of_getElem? (i := 2) rfl) rfl | exact kd _ (Array.mem_of_getElem? (i := 3) rfl) rfl
        have t24 : ρ (.tmp 24) = .slice (some ⟨g, 0, none⟩) 4 4 := (ks 6 24 (by decide) rfl).trans d6
        obtain ⟨n8, d8, l8, u8⟩ : ∃ n : Int, v 8 = .int .i64 n ∧ (0 : Int) ≤ n ∧ n ≤ 3 := by first | exact kd _ (Array.mem_of_getElem? (i := 0) rfl) rfl | exact kd _ (Array.mem_of_getElem? (i := 1) rfl) rfl | exact kd _ (Array.mem_of_getElem? (i := 2) rfl) rfl | exact kd _ (Array.mem_of_getElem? (i := 3) rfl) rfl
        have t26 : ρ (.tmp 26) = .int .i64 n8 := (ks 8 26 (by decide) rfl).trans d8
        obtain ⟨k, rfl⟩ : ∃ k : Nat, n8 = k := ⟨n8.toNat, by omega⟩
        have hj : (0 : Int) ≤ (k : Int) ∧ (k : Int) < 4 := by omega
        simp [execOp, go_sem, t24, t26, hj]
        simp only [RanS]
        exact ⟨hC, DrR.refl _, g, k, rfl, (show k < 4 by omega), hgB, hgr, hg⟩
      · refine ⟨rfl, fun v W ρ hC kc kf ks ki kd => ?_⟩
        obtain ⟨g, k, d9, hk, hgB, hgr, hg⟩ : ∃ g k, v 9 = .pointer (some ⟨g, k, none⟩) ∧ k < 4 ∧ g ≠ B ∧ (∀ x ∈ [(w.heap.size, 40, (fun cs : Array Value => ∃ q : Tp, cs = #[.int .i64 q.proto, .int .i64 q.src, .int .i64 q.sport, .int .i64 q.dst, .int .i64 q.dport, .int .i64 q.kind]))], g ≠ x.1) ∧ W.heap[g]? = some (.cells #[.int .i64 0, .int .i64 1, .int .i64 64, .int .i64 65] 2) := by first | exact kd _ (Array.mem_of_getElem? (i := 0) rfl) rfl | exact kd _ (Array.mem_of_getElem? (i := 1) rfl) rfl | exact kd _ (Array.mem_of_getElem? (i := 2) rfl) rfl | exact kd _ (Array.mem_of_getElem? (i := 3) rfl) rfl
        have t27 : ρ (.tmp 27) = .pointer (some ⟨g, k, none⟩) := (ks 9 27 (by decide) rfl).trans d9
        obtain ⟨z, z1, z2, hz⟩ := many_cells k hk
        have hc := (blk_cell hg k).trans hz
        simp [execOp, go_sem, t27, hc]
        simp only [RanS]
        exact ⟨hC, DrR.refl _, z, rfl, z1, z2⟩
      · refine ⟨rfl, fun v W ρ hC kc kf ks ki kd => ?_⟩
        have d0 : v 0 = .agg #[.int .i64 t.proto, .int .i64 t.src, .int .i64 t.sport, .int .i64 t.dst, .int .i64 t.dport, .int .i64 t.kind] := by first | exact kd _ (Array.mem_of_getElem? (i := 0) rfl) rfl | exact kd _ (Array.mem_of_getElem? (i := 1) rfl) rfl | exact kd _ (Array.mem_of_getElem? (i := 2) rfl) rfl | exact kd _ (Array.mem_of_getElem? (i := 3) rfl) rfl
        have t18 : ρ (.tmp 18) = .agg #[.int .i64 t.proto, .int .i64 t.src, .int .i64 t.sport, .int .i64 t.dst, .int .i64 t.dport, .int .i64 t.kind] := (ks 0 18 (by decide) rfl).trans d0
        have t2 : ρ (.tmp 2) = .pointer (some ⟨w.heap.size, 0, none⟩) := ki 2 (by decide)
        have hz : ∀ cs, (fun cs : Array Value => ∃ q : Tp, cs = #[.int .i64 q.proto, .int .i64 q.src, .int .i64 q.sport, .int .i64 q.dst, .int .i64 q.dport, .int .i64 q.kind]) cs → cs.size = 6 := fun cs h => by obtain ⟨q, h⟩ := h; first | (subst h; rfl) | (rw [h.1]; rfl)
        have hth := hC.there (w.heap.size) 40 (fun cs : Array Value => ∃ q : Tp, cs = #[.int .i64 q.proto, .int .i64 q.src, .int .i64 q.sport, .int .i64 q.dst, .int .i64 q.dport, .int .i64 q.kind]) 6 (by simp) hz
        have hrun := run_storeAt_mid (P := Tryz.prog) W (w.heap.size) 0 40 #[.int .i64 t.proto, .int .i64 t.src, .int .i64 t.sport, .int .i64 t.dst, .int .i64 t.dport, .int .i64 t.kind] hth (by kernel_rfl) (by simp [Value.oneCell'])
        obtain ⟨q1, q2⟩ := hC.store hK.out (w.heap.size) 40 (fun cs : Array Value => ∃ q : Tp, cs = #[.int .i64 q.proto, .int .i64 q.src, .int .i64 q.sport, .int .i64 q.dst, .int .i64 q.dport, .int .i64 q.kind]) #[.int .i64 t.proto, .int .i64 t.src, .int .i64 t.sport, .int .i64 t.dst, .int .i64 t.dport, .int .i64 t.kind] (by simp) (fun y hy e => by simp at hy; subst hy; rfl) ⟨t, rfl⟩ hz
        simp only [execOp, t2, t18, Sem.run_bind, hrun, Result.andThen_ok, Sem.run_pure]
        simp only [RanS]
        exact ⟨q1, q2, trivial⟩
      · refine ⟨rfl, fun v W ρ hC kc kf ks ki kd => ?_⟩
        obtain ⟨s5, d5, z5⟩ : ∃ s : ByteArray, v 5 = .string s ∧ s.size ≤ 21 := by first | exact kd _ (Array.mem_of_getElem? (i := 0) rfl) rfl | exact kd _ (Array.mem_of_getElem? (i := 1) rfl) rfl | exact kd _ (Array.mem_of_getElem? (i := 2) rfl) rfl | exact kd _ (Array.mem_of_getElem? (i := 3) rfl) rfl
        have t23 : ρ (.tmp 23) = .string s5 := (ks 5 23 (by decide) rfl).trans d5
        simp [execOp, go_sem, t23]
        simp only [RanS]
        exact ⟨hC, DrR.refl _, s5, rfl, z5⟩
      · refine ⟨rfl, fun v W ρ hC kc kf ks ki kd => ?_⟩
        obtain ⟨n10, d10, l10, u10⟩ : ∃ n : Int, v 10 = .int .i64 n ∧ (0 : Int) ≤ n ∧ n ≤ 65 := by first | exact kd _ (Array.mem_of_getElem? (i := 0) rfl) rfl | exact kd _ (Array.mem_of_getElem? (i := 1) rfl) rfl | exact kd _ (Array.mem_of_getElem? (i := 2) rfl) rfl | exact kd _ (Array.mem_of_getElem? (i := 3) rfl) rfl
        have t28 : ρ (.tmp 28) = .int .i64 n10 := (ks 10 28 (by decide) rfl).trans d10
        simp [execOp, go_sem, t28]
        simp only [RanS]
        exact ⟨hC, DrR.refl _, n10, rfl, l10, u10⟩
    case fin =>
      intro v W hC hall
      obtain ⟨x0, ⟨q0, rfl⟩, hr0⟩ := hC.res (w.heap.size, 40, (fun cs : Array Value => ∃ q : Tp, cs = #[.int .i64 q.proto, .int .i64 q.src, .int .i64 q.sport, .int .i64 q.dst, .int .i64 q.dport, .int .i64 q.kind])) (by simp)
      obtain ⟨k3, e3, z3⟩ : ∃ s : ByteArray, v 12 = .string s ∧ s.size ≤ 21 := hall 12 (by decide)
      obtain ⟨m, e4, _, _⟩ : ∃ n : Int, v 13 = .int .i64 n ∧ (0 : Int) ≤ n ∧ n ≤ 65 := hall 13 (by decide)
      have HB := hidS hC.bel
      simp [upto, Act.put]
      rw [e3, e4]
      have k0 := blk_cell hr0
      clear hC hall hr0 hC0 hK e3 e4
      go_wp2_with fail
      exact bodyPost_ret (v := .tuple #[.agg #[.int .i64 q0.proto, .int .i64 q0.src, .int .i64 q0.sport, .int .i64 q0.dst, .int .i64 q0.dport, .int .i64 q0.kind], .string k3, .int .i64 m]) (by simp [results, Tryz.results25, go_sem, *]) rfl ⟨⟨q0, k3, m, rfl, z3⟩, HB.out⟩
end Go.Proofs.YtedknnkdnccfmaaGreatDoor
