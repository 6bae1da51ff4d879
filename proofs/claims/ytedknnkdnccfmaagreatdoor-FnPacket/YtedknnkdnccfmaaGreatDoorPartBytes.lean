/- Proved here: what the parts' methods bytes answer, a text joined of its words; all old memory stays (conditions: the part's numbers are within their bounds, the body has at most 1000 bytes). -/
import Derived.Test.YtedknnkdnccfmaaGreatDoorAll6
import Derived.Test.YtedknnkdnccfmaaGreatDoorAll24
namespace Go.Proofs.YtedknnkdnccfmaaGreatDoor
open Go.ChangeShapes Go.WideShapes Go.ChangeAt Go.RowKit
open Go.ChangeMaps (open_string shut_string)
set_option linter.unusedVariables false
set_option maxRecDepth 100000
set_option linter.unusedSimpArgs false

theorem cells_new (W : World) (cs : Array Value) (t : TypeId) : ∀ k, (W.alloc (.cells cs t)).cell? ⟨W.heap.size, k, none⟩ = cs[k]? := fun k => by
  have := heap_newG W (.cells cs t)
  simp only [World.cell?, this, Option.isSome_none]
  rfl
/-- a block whose cells stay -/
def Cells (g : Nat) (cs : Array Value) (W : World) : Prop := g < W.heap.size ∧ ∀ k, W.cell? ⟨g, k, none⟩ = cs[k]?
theorem Cells.new (W : World) (cs : Array Value) (t : TypeId) : Cells W.heap.size cs (W.alloc (.cells cs t)) := ⟨by simp, cells_new W cs t⟩
theorem Cells.later {g : Nat} {cs : Array Value} {W W' : World} (h : Cells g cs W) (hb : Below W.heap.size W W') : Cells g cs W' := ⟨Nat.lt_of_lt_of_le h.1 hb.size, fun k => (hb.cell (p := ⟨g, k, none⟩) h.1).trans (h.2 k)⟩

set_option maxHeartbeats 4000000 in
theorem tcpBytes_x (a b q k f : Int) (s : ByteArray) (w : World) (ha : wordB a = true) (hb : wordB b = true) (hq : addrB q = true) (hk : addrB k = true) (hf0 : 0 ≤ f) (hf1 : f ≤ 255) (hs : s.size ≤ 1000) :
    Calls Tryz.prog 182 #[.agg #[.int .i64 a, .int .i64 b, .int .i64 q, .int .i64 k, .int .i64 f, .string s]] w fun e w' => e = .returned (.string (catT [twoT a.toNat, twoT b.toNat, fourT q.toNat, fourT k.toNat, rowT [80, f, 32, 0, 0, 0, 0, 0], s])) ∧ Below w.heap.size w w' := by
  have hwf : IntKind.u8.wrap f = f := IntWalk.u8_in _ (by omega)
  have hr : (rowT [80, f, 32, 0, 0, 0, 0, 0]).size = 8 := rowT_size _
  have hcv : (convert 22 9 (.slice (some ⟨w.heap.size + 1, 0, none⟩) 8 8)).run Tryz.prog ((w.alloc (.cells #[.int .i64 a, .int .i64 b, .int .i64 q, .int .i64 k, .int .i64 f, .string s] 109)).alloc (.cells #[.int .u8 80, .int .u8 f, .int .u8 32, .int .u8 0, .int .u8 0, .int .u8 0, .int .u8 0, .int .u8 0] 5)) = .ok (.string (rowT [80, f, 32, 0, 0, 0, 0, 0])) ((w.alloc (.cells #[.int .i64 a, .int .i64 b, .int .i64 q, .int .i64 k, .int .i64 f, .string s] 109)).alloc (.cells #[.int .u8 80, .int .u8 f, .int .u8 32, .int .u8 0, .int .u8 0, .int .u8 0, .int .u8 0, .int .u8 0] 5)) := by
    have e : (w.alloc (.cells #[.int .i64 a, .int .i64 b, .int .i64 q, .int .i64 k, .int .i64 f, .string s] 109)).heap.size = w.heap.size + 1 := by simp
    have h := BytesAt.conv 8 (row_at (W := w.alloc (.cells #[.int .i64 a, .int .i64 b, .int .i64 q, .int .i64 k, .int .i64 f, .string s] 109)) [80, f, 32, 0, 0, 0, 0, 0] (by simp; omega))
    rw [e] at h
    exact h
  have HP := hidS (Cells.new w #[.int .i64 a, .int .i64 b, .int .i64 q, .int .i64 k, .int .i64 f, .string s] 109)
  have hB1 := hidS ((Below.refl w.heap.size w).alloc (Nat.le_refl _) (.cells #[.int .i64 a, .int .i64 b, .int .i64 q, .int .i64 k, .int .i64 f, .string s] 109))
  go_enter Tryz.func182, Tryz.ntmps182
  go_wp2_with fail
  have HP := hidS (HP.out.later ((Below.refl _ (w.alloc (.cells #[.int .i64 a, .int .i64 b, .int .i64 q, .int .i64 k, .int .i64 f, .string s] 109))).alloc (Nat.le_refl _) (.cells #[.int .u8 80, .int .u8 f, .int .u8 32, .int .u8 0, .int .u8 0, .int .u8 0, .int .u8 0, .int .u8 0] 5)))
  have hB1 := hidS (hB1.out.alloc hB1.out.size (.cells #[.int .u8 80, .int .u8 f, .int .u8 32, .int .u8 0, .int .u8 0, .int .u8 0, .int .u8 0, .int .u8 0] 5))
  generalize (w.alloc (.cells #[.int .i64 a, .int .i64 b, .int .i64 q, .int .i64 k, .int .i64 f, .string s] 109)).alloc (.cells #[.int .u8 80, .int .u8 f, .int .u8 32, .int .u8 0, .int .u8 0, .int .u8 0, .int .u8 0, .int .u8 0] 5) = w1 at HP hB1 ⊢
  refine grow_kinds 18 [.is (.pointer (some ⟨w.heap.size, 0, none⟩)), .is (.int .i64 a), .is (.string (twoT a.toNat)), .is (.pointer (some ⟨w.heap.size, 1, none⟩)), .is (.int .i64 b), .is (.string (twoT b.toNat)), .is (.pointer (some ⟨w.heap.size, 2, none⟩)), .is (.int .i64 q), .is (.string (fourT q.toNat)), .is (.pointer (some ⟨w.heap.size, 3, none⟩)), .is (.int .i64 k), .is (.string (fourT k.toNat)), .is (.string (rowT [80, f, 32, 0, 0, 0, 0, 0])), .is (.pointer (some ⟨w.heap.size, 5, none⟩)), .is (.string s), .vals [.string (twoT a.toNat), .string (twoT b.toNat), .string (fourT q.toNat), .string (fourT k.toNat), .string (rowT [80, f, 32, 0, 0, 0, 0, 0]), .string s], .is (.string (catT [(twoT a.toNat), (twoT b.toNat), (fourT q.toNat), (fourT k.toNat), (rowT [80, f, 32, 0, 0, 0, 0, 0]), s])), .is (.string (catT [(twoT a.toNat), (twoT b.toNat), (fourT q.toNat), (fourT k.toNat), (rowT [80, f, 32, 0, 0, 0, 0, 0]), s]))] rfl (by kernel_rfl) (by kernel_rfl) ?steps ?fin
  case steps =>
    refine ⟨?_, ?_, ?_, ?_, ?_, ?_, ?_, ?_, ?_, ?_, ?_, ?_, ?_, ?_, ?_, ?_, ?_, ?_, trivial⟩
    · refine ⟨rfl, fun v W ρ hC kc kf ks ki kd => ?_⟩
      have t1 : ρ (.tmp 1) = .pointer (some ⟨w.heap.size, 0, none⟩) := ki 1 (by decide)
      simp [execOp, go_sem, t1]
      exact ⟨hC, Below.refl _ _, rfl⟩
    · refine ⟨rfl, fun v W ρ hC kc kf ks ki kd => ?_⟩
      have d0 : v 0 = .pointer (some ⟨w.heap.size, 0, none⟩) := kd _ (Array.mem_of_getElem? (i := 0) rfl) rfl
      have t9 : ρ (.tmp 9) = v 0 := ks 0 9 (by decide) rfl
      rw [d0] at t9
      have hp := (HP.out.later hC).2
      have c0 := hp 0
      have c1 := hp 1
      have c2 := hp 2
      have c3 := hp 3
      have c4 := hp 4
      have c5 := hp 5
      simp at c0 c1 c2 c3 c4 c5
      simp [execOp, go_sem, t9, c0]
      exact ⟨hC, Below.refl _ _, rfl⟩
    · refine ⟨rfl, fun v W ρ hC kc kf ks ki kd => ?_⟩
      have d1 : v 1 = .int .i64 a := kd _ (Array.mem_of_getElem? (i := 0) rfl) rfl
      have t10 : ρ (.tmp 10) = v 1 := ks 1 10 (by decide) rfl
      rw [d1] at t10
      simp [execOp, go_sem, t10, kf]
      exact Calls.mono (implWord_x _ _ (by assumption)) (fun e x h => ⟨_, h.1, hC.trans (h.2.mono hC.size), h.2, rfl⟩)
    · refine ⟨rfl, fun v W ρ hC kc kf ks ki kd => ?_⟩
      have t1 : ρ (.tmp 1) = .pointer (some ⟨w.heap.size, 0, none⟩) := ki 1 (by decide)
      simp [execOp, go_sem, t1]
      exact ⟨hC, Below.refl _ _, rfl⟩
    · refine ⟨rfl, fun v W ρ hC kc kf ks ki kd => ?_⟩
      have d3 : v 3 = .pointer (some ⟨w.heap.size, 1, none⟩) := kd _ (Array.mem_of_getElem? (i := 0) rfl) rfl
      have t12 : ρ (.tmp 12) = v 3 := ks 3 12 (by decide) rfl
      rw [d3] at t12
      have hp := (HP.out.later hC).2
      have c0 := hp 0
      have c1 := hp 1
      have c2 := hp 2
      have c3 := hp 3
      have c4 := hp 4
      have c5 := hp 5
      simp at c0 c1 c2 c3 c4 c5
      simp [execOp, go_sem, t12, c1]
      exact ⟨hC, Below.refl _ _, rfl⟩
    · refine ⟨rfl, fun v W ρ hC kc kf ks ki kd => ?_⟩
      have d4 : v 4 = .int .i64 b := kd _ (Array.mem_of_getElem? (i := 0) rfl) rfl
      have t13 : ρ (.tmp 13) = v 4 := ks 4 13 (by decide) rfl
      rw [d4] at t13
      simp [execOp, go_sem, t13, kf]
      exact Calls.mono (implWord_x _ _ (by assumption)) (fun e x h => ⟨_, h.1, hC.trans (h.2.mono hC.size), h.2, rfl⟩)
    · refine ⟨rfl, fun v W ρ hC kc kf ks ki kd => ?_⟩
      have t1 : ρ (.tmp 1) = .pointer (some ⟨w.heap.size, 0, none⟩) := ki 1 (by decide)
      simp [execOp, go_sem, t1]
      exact ⟨hC, Below.refl _ _, rfl⟩
    · refine ⟨rfl, fun v W ρ hC kc kf ks ki kd => ?_⟩
      have d6 : v 6 = .pointer (some ⟨w.heap.size, 2, none⟩) := kd _ (Array.mem_of_getElem? (i := 0) rfl) rfl
      have t15 : ρ (.tmp 15) = v 6 := ks 6 15 (by decide) rfl
      rw [d6] at t15
      have hp := (HP.out.later hC).2
      have c0 := hp 0
      have c1 := hp 1
      have c2 := hp 2
      have c3 := hp 3
      have c4 := hp 4
      have c5 := hp 5
      simp at c0 c1 c2 c3 c4 c5
      simp [execOp, go_sem, t15, c2]
      exact ⟨hC, Below.refl _ _, rfl⟩
    · refine ⟨rfl, fun v W ρ hC kc kf ks ki kd => ?_⟩
      have d7 : v 7 = .int .i64 q := kd _ (Array.mem_of_getElem? (i := 0) rfl) rfl
      have t16 : ρ (.tmp 16) = v 7 := ks 7 16 (by decide) rfl
      rw [d7] at t16
      simp [execOp, go_sem, t16, kf]
      exact Calls.mono (longText_x _ _ (by assumption)) (fun e x h => ⟨_, h.1, hC.trans (h.2.mono hC.size), h.2, rfl⟩)
    · refine ⟨rfl, fun v W ρ hC kc kf ks ki kd => ?_⟩
      have t1 : ρ (.tmp 1) = .pointer (some ⟨w.heap.size, 0, none⟩) := ki 1 (by decide)
      simp [execOp, go_sem, t1]
      exact ⟨hC, Below.refl _ _, rfl⟩
    · refine ⟨rfl, fun v W ρ hC kc kf ks ki kd => ?_⟩
      have d9 : v 9 = .pointer (some ⟨w.heap.size, 3, none⟩) := kd _ (Array.mem_of_getElem? (i := 0) rfl) rfl
      have t18 : ρ (.tmp 18) = v 9 := ks 9 18 (by decide) rfl
      rw [d9] at t18
      have hp := (HP.out.later hC).2
      have c0 := hp 0
      have c1 := hp 1
      have c2 := hp 2
      have c3 := hp 3
      have c4 := hp 4
      have c5 := hp 5
      simp at c0 c1 c2 c3 c4 c5
      simp [execOp, go_sem, t18, c3]
      exact ⟨hC, Below.refl _ _, rfl⟩
    · refine ⟨rfl, fun v W ρ hC kc kf ks ki kd => ?_⟩
      have d10 : v 10 = .int .i64 k := kd _ (Array.mem_of_getElem? (i := 0) rfl) rfl
      have t19 : ρ (.tmp 19) = v 10 := ks 10 19 (by decide) rfl
      rw [d10] at t19
      simp [execOp, go_sem, t19, kf]
      exact Calls.mono (longText_x _ _ (by assumption)) (fun e x h => ⟨_, h.1, hC.trans (h.2.mono hC.size), h.2, rfl⟩)
    · refine ⟨rfl, fun v W ρ hC kc kf ks ki kd => ?_⟩
      have t3 : ρ (.tmp 3) = .string (rowT [80, f, 32, 0, 0, 0, 0, 0]) := ki 3 (by decide)
      simp [execOp, go_sem, t3]
      exact ⟨hC, Below.refl _ _, rfl⟩
    · refine ⟨rfl, fun v W ρ hC kc kf ks ki kd => ?_⟩
      have t1 : ρ (.tmp 1) = .pointer (some ⟨w.heap.size, 0, none⟩) := ki 1 (by decide)
      simp [execOp, go_sem, t1]
      exact ⟨hC, Below.refl _ _, rfl⟩
    · refine ⟨rfl, fun v W ρ hC kc kf ks ki kd => ?_⟩
      have d13 : v 13 = .pointer (some ⟨w.heap.size, 5, none⟩) := kd _ (Array.mem_of_getElem? (i := 0) rfl) rfl
      have t22 : ρ (.tmp 22) = v 13 := ks 13 22 (by decide) rfl
      rw [d13] at t22
      have hp := (HP.out.later hC).2
      have c0 := hp 0
      have c1 := hp 1
      have c2 := hp 2
      have c3 := hp 3
      have c4 := hp 4
      have c5 := hp 5
      simp at c0 c1 c2 c3 c4 c5
      simp [execOp, go_sem, t22, c5]
      exact ⟨hC, Below.refl _ _, rfl⟩
    · refine ⟨rfl, fun v W ρ hC kc kf ks ki kd => ?_⟩
      have d2 : v 2 = .string (twoT a.toNat) := kd _ (Array.mem_of_getElem? (i := 0) rfl) rfl
      have t11 : ρ (.tmp 11) = v 2 := ks 2 11 (by decide) rfl
      rw [d2] at t11
      have d5 : v 5 = .string (twoT b.toNat) := kd _ (Array.mem_of_getElem? (i := 1) rfl) rfl
      have t14 : ρ (.tmp 14) = v 5 := ks 5 14 (by decide) rfl
      rw [d5] at t14
      have d8 : v 8 = .string (fourT q.toNat) := kd _ (Array.mem_of_getElem? (i := 2) rfl) rfl
      have t17 : ρ (.tmp 17) = v 8 := ks 8 17 (by decide) rfl
      rw [d8] at t17
      have d11 : v 11 = .string (fourT k.toNat) := kd _ (Array.mem_of_getElem? (i := 3) rfl) rfl
      have t20 : ρ (.tmp 20) = v 11 := ks 11 20 (by decide) rfl
      rw [d11] at t20
      have d12 : v 12 = .string (rowT [80, f, 32, 0, 0, 0, 0, 0]) := kd _ (Array.mem_of_getElem? (i := 4) rfl) rfl
      have t21 : ρ (.tmp 21) = v 12 := ks 12 21 (by decide) rfl
      rw [d12] at t21
      have d14 : v 14 = .string s := kd _ (Array.mem_of_getElem? (i := 5) rfl) rfl
      have t23 : ρ (.tmp 23) = v 14 := ks 14 23 (by decide) rfl
      rw [d14] at t23
      simp [execOp, go_sem, t11, t14, t17, t20, t21, t23]
      exact ⟨hC.alloc hC.size _, (Below.refl _ _).alloc (Nat.le_refl _) _, W.heap.size, rfl, vals_at [.string (twoT a.toNat), .string (twoT b.toNat), .string (fourT q.toNat), .string (fourT k.toNat), .string (rowT [80, f, 32, 0, 0, 0, 0, 0]), .string s] _⟩
    · refine ⟨rfl, fun v W ρ hC kc kf ks ki kd => ?_⟩
      obtain ⟨B15, e15, hB15⟩ : ∃ B, v 15 = .slice (some ⟨B, 0, none⟩) 6 6 ∧ ValsAt B [.string (twoT a.toNat), .string (twoT b.toNat), .string (fourT q.toNat), .string (fourT k.toNat), .string (rowT [80, f, 32, 0, 0, 0, 0, 0]), .string s] W := kd _ (Array.mem_of_getElem? (i := 0) rfl) rfl
      have t24 : ρ (.tmp 24) = v 15 := ks 15 24 (by decide) rfl
      rw [e15] at t24
      simp [execOp, go_sem, t24, kf]
      exact Calls.mono (joinTexts_any B15 [(twoT a.toNat), (twoT b.toNat), (fourT q.toNat), (fourT k.toNat), (rowT [80, f, 32, 0, 0, 0, 0, 0]), s] _ (ValsAt.strs (ts := [(twoT a.toNat), (twoT b.toNat), (fourT q.toNat), (fourT k.toNat), (rowT [80, f, 32, 0, 0, 0, 0, 0]), s]) hB15) hB15.1 (by simp) (by simp [twoT_size, fourT_size, rowT_size]; omega)) (fun e x h => ⟨_, h.1, hC.trans (h.2.mono hC.size), h.2, rfl⟩)
    · refine ⟨rfl, fun v W ρ hC kc kf ks ki kd => ?_⟩
      have d16 : v 16 = .string (catT [(twoT a.toNat), (twoT b.toNat), (fourT q.toNat), (fourT k.toNat), (rowT [80, f, 32, 0, 0, 0, 0, 0]), s]) := kd _ (Array.mem_of_getElem? (i := 0) rfl) rfl
      have t25 : ρ (.tmp 25) = v 16 := ks 16 25 (by decide) rfl
      rw [d16] at t25
      simp [execOp, go_sem, t25]
      exact ⟨hC, Below.refl _ _, rfl⟩
  case fin =>
    intro v W hC hall
    have hL2 : v 17 = .string (catT [(twoT a.toNat), (twoT b.toNat), (fourT q.toNat), (fourT k.toNat), (rowT [80, f, 32, 0, 0, 0, 0, 0]), s]) := hall 17 (by decide)
    simp [upto, Act.put]
    rw [hL2]
    clear hall hL2
    have hE := hidS (hB1.out.trans (hC.mono hB1.out.size))
    go_wp2
    go_ret
    exact ⟨rfl, hE.out⟩

set_option maxHeartbeats 4000000 in
theorem udpBytes_x (a b : Int) (s : ByteArray) (w : World) (ha : wordB a = true) (hb : wordB b = true) (hs : s.size ≤ 1000) :
    Calls Tryz.prog 185 #[.agg #[.int .i64 a, .int .i64 b, .string s]] w fun e w' => e = .returned (.string (catT [twoT a.toNat, twoT b.toNat, twoT (8 + (s.size : Int)).toNat, twoT 0, s])) ∧ Below w.heap.size w w' := by
  have hw8 : wordB (8 + (s.size : Int)) = true := wordB_iff.2 ⟨by omega, by omega⟩
  have hw0 : wordB 0 = true := rfl
  have hwz : IntKind.i64.wrap (8 + (s.size : Int)) = 8 + (s.size : Int) := IntWalk.i64_in _ (by omega)
  have HP := hidS (Cells.new w #[.int .i64 a, .int .i64 b, .string s] 111)
  have hB1 := hidS ((Below.refl w.heap.size w).alloc (Nat.le_refl _) (.cells #[.int .i64 a, .int .i64 b, .string s] 111))
  go_enter Tryz.func185, Tryz.ntmps185
  go_wp2_with fail
  generalize w.alloc (.cells #[.int .i64 a, .int .i64 b, .string s] 111) = w1 at HP hB1 ⊢
  refine grow_kinds 14 [.is (.pointer (some ⟨w.heap.size, 0, none⟩)), .is (.int .i64 a), .is (.string (twoT a.toNat)), .is (.pointer (some ⟨w.heap.size, 1, none⟩)), .is (.int .i64 b), .is (.string (twoT b.toNat)), .is (.int .i64 (8 + (s.size : Int))), .is (.string (twoT (8 + (s.size : Int)).toNat)), .is (.string (twoT 0)), .is (.pointer (some ⟨w.heap.size, 2, none⟩)), .is (.string s), .vals [.string (twoT a.toNat), .string (twoT b.toNat), .string (twoT (8 + (s.size : Int)).toNat), .string (twoT 0), .string s], .is (.string (catT [(twoT a.toNat), (twoT b.toNat), (twoT (8 + (s.size : Int)).toNat), (twoT 0), s])), .is (.string (catT [(twoT a.toNat), (twoT b.toNat), (twoT (8 + (s.size : Int)).toNat), (twoT 0), s]))] rfl (by kernel_rfl) (by kernel_rfl) ?steps ?fin
  case steps =>
    refine ⟨?_, ?_, ?_, ?_, ?_, ?_, ?_, ?_, ?_, ?_, ?_, ?_, ?_, ?_, trivial⟩
    · refine ⟨rfl, fun v W ρ hC kc kf ks ki kd => ?_⟩
      have t1 : ρ (.tmp 1) = .pointer (some ⟨w.heap.size, 0, none⟩) := ki 1 (by decide)
      simp [execOp, go_sem, t1]
      exact ⟨hC, Below.refl _ _, rfl⟩
    · refine ⟨rfl, fun v W ρ hC kc kf ks ki kd => ?_⟩
      have d0 : v 0 = .pointer (some ⟨w.heap.size, 0, none⟩) := kd _ (Array.mem_of_getElem? (i := 0) rfl) rfl
      have t8 : ρ (.tmp 8) = v 0 := ks 0 8 (by decide) rfl
      rw [d0] at t8
      have hp := (HP.out.later hC).2
      have c0 := hp 0
      have c1 := hp 1
      have c2 := hp 2
      simp at c0 c1 c2
      simp [execOp, go_sem, t8, c0]
      exact ⟨hC, Below.refl _ _, rfl⟩
    · refine ⟨rfl, fun v W ρ hC kc kf ks ki kd => ?_⟩
      have d1 : v 1 = .int .i64 a := kd _ (Array.mem_of_getElem? (i := 0) rfl) rfl
      have t9 : ρ (.tmp 9) = v 1 := ks 1 9 (by decide) rfl
      rw [d1] at t9
      simp [execOp, go_sem, t9, kf]
      exact Calls.mono (implWord_x _ _ (by assumption)) (fun e x h => ⟨_, h.1, hC.trans (h.2.mono hC.size), h.2, rfl⟩)
    · refine ⟨rfl, fun v W ρ hC kc kf ks ki kd => ?_⟩
      have t1 : ρ (.tmp 1) = .pointer (some ⟨w.heap.size, 0, none⟩) := ki 1 (by decide)
      simp [execOp, go_sem, t1]
      exact ⟨hC, Below.refl _ _, rfl⟩
    · refine ⟨rfl, fun v W ρ hC kc kf ks ki kd => ?_⟩
      have d3 : v 3 = .pointer (some ⟨w.heap.size, 1, none⟩) := kd _ (Array.mem_of_getElem? (i := 0) rfl) rfl
      have t11 : ρ (.tmp 11) = v 3 := ks 3 11 (by decide) rfl
      rw [d3] at t11
      have hp := (HP.out.later hC).2
      have c0 := hp 0
      have c1 := hp 1
      have c2 := hp 2
      simp at c0 c1 c2
      simp [execOp, go_sem, t11, c1]
      exact ⟨hC, Below.refl _ _, rfl⟩
    · refine ⟨rfl, fun v W ρ hC kc kf ks ki kd => ?_⟩
      have d4 : v 4 = .int .i64 b := kd _ (Array.mem_of_getElem? (i := 0) rfl) rfl
      have t12 : ρ (.tmp 12) = v 4 := ks 4 12 (by decide) rfl
      rw [d4] at t12
      simp [execOp, go_sem, t12, kf]
      exact Calls.mono (implWord_x _ _ (by assumption)) (fun e x h => ⟨_, h.1, hC.trans (h.2.mono hC.size), h.2, rfl⟩)
    · refine ⟨rfl, fun v W ρ hC kc kf ks ki kd => ?_⟩
      have t3 : ρ (.tmp 3) = .int .i64 (8 + (s.size : Int)) := ki 3 (by decide)
      simp [execOp, go_sem, t3]
      exact ⟨hC, Below.refl _ _, rfl⟩
    · refine ⟨rfl, fun v W ρ hC kc kf ks ki kd => ?_⟩
      have d6 : v 6 = .int .i64 (8 + (s.size : Int)) := kd _ (Array.mem_of_getElem? (i := 0) rfl) rfl
      have t14 : ρ (.tmp 14) = v 6 := ks 6 14 (by decide) rfl
      rw [d6] at t14
      simp [execOp, go_sem, t14, kf]
      exact Calls.mono (implWord_x _ _ (by assumption)) (fun e x h => ⟨_, h.1, hC.trans (h.2.mono hC.size), h.2, rfl⟩)
    · refine ⟨rfl, fun v W ρ hC kc kf ks ki kd => ?_⟩
      simp [execOp, go_sem, kf, kc]
      exact Calls.mono (implWord_x _ _ (by assumption)) (fun e x h => ⟨_, h.1, hC.trans (h.2.mono hC.size), h.2, rfl⟩)
    · refine ⟨rfl, fun v W ρ hC kc kf ks ki kd => ?_⟩
      have t1 : ρ (.tmp 1) = .pointer (some ⟨w.heap.size, 0, none⟩) := ki 1 (by decide)
      simp [execOp, go_sem, t1]
      exact ⟨hC, Below.refl _ _, rfl⟩
    · refine ⟨rfl, fun v W ρ hC kc kf ks ki kd => ?_⟩
      have d9 : v 9 = .pointer (some ⟨w.heap.size, 2, none⟩) := kd _ (Array.mem_of_getElem? (i := 0) rfl) rfl
      have t17 : ρ (.tmp 17) = v 9 := ks 9 17 (by decide) rfl
      rw [d9] at t17
      have hp := (HP.out.later hC).2
      have c0 := hp 0
      have c1 := hp 1
      have c2 := hp 2
      simp at c0 c1 c2
      simp [execOp, go_sem, t17, c2]
      exact ⟨hC, Below.refl _ _, rfl⟩
    · refine ⟨rfl, fun v W ρ hC kc kf ks ki kd => ?_⟩
      have d2 : v 2 = .string (twoT a.toNat) := kd _ (Array.mem_of_getElem? (i := 0) rfl) rfl
      have t10 : ρ (.tmp 10) = v 2 := ks 2 10 (by decide) rfl
      rw [d2] at t10
      have d5 : v 5 = .string (twoT b.toNat) := kd _ (Array.mem_of_getElem? (i := 1) rfl) rfl
      have t13 : ρ (.tmp 13) = v 5 := ks 5 13 (by decide) rfl
      rw [d5] at t13
      have d7 : v 7 = .string (twoT (8 + (s.size : Int)).toNat) := kd _ (Array.mem_of_getElem? (i := 2) rfl) rfl
      have t15 : ρ (.tmp 15) = v 7 := ks 7 15 (by decide) rfl
      rw [d7] at t15
      have d8 : v 8 = .string (twoT 0) := kd _ (Array.mem_of_getElem? (i := 3) rfl) rfl
      have t16 : ρ (.tmp 16) = v 8 := ks 8 16 (by decide) rfl
      rw [d8] at t16
      have d10 : v 10 = .string s := kd _ (Array.mem_of_getElem? (i := 4) rfl) rfl
      have t18 : ρ (.tmp 18) = v 10 := ks 10 18 (by decide) rfl
      rw [d10] at t18
      simp [execOp, go_sem, t10, t13, t15, t16, t18]
      exact ⟨hC.alloc hC.size _, (Below.refl _ _).alloc (Nat.le_refl _) _, W.heap.size, rfl, vals_at [.string (twoT a.toNat), .string (twoT b.toNat), .string (twoT (8 + (s.size : Int)).toNat), .string (twoT 0), .string s] _⟩
    · refine ⟨rfl, fun v W ρ hC kc kf ks ki kd => ?_⟩
      obtain ⟨B11, e11, hB11⟩ : ∃ B, v 11 = .slice (some ⟨B, 0, none⟩) 5 5 ∧ ValsAt B [.string (twoT a.toNat), .string (twoT b.toNat), .string (twoT (8 + (s.size : Int)).toNat), .string (twoT 0), .string s] W := kd _ (Array.mem_of_getElem? (i := 0) rfl) rfl
      have t19 : ρ (.tmp 19) = v 11 := ks 11 19 (by decide) rfl
      rw [e11] at t19
      simp [execOp, go_sem, t19, kf]
      exact Calls.mono (joinTexts_any B11 [(twoT a.toNat), (twoT b.toNat), (twoT (8 + (s.size : Int)).toNat), (twoT 0), s] _ (ValsAt.strs (ts := [(twoT a.toNat), (twoT b.toNat), (twoT (8 + (s.size : Int)).toNat), (twoT 0), s]) hB11) hB11.1 (by simp) (by simp [twoT_size, fourT_size, rowT_size]; omega)) (fun e x h => ⟨_, h.1, hC.trans (h.2.mono hC.size), h.2, rfl⟩)
    · refine ⟨rfl, fun v W ρ hC kc kf ks ki kd => ?_⟩
      have d12 : v 12 = .string (catT [(twoT a.toNat), (twoT b.toNat), (twoT (8 + (s.size : Int)).toNat), (twoT 0), s]) := kd _ (Array.mem_of_getElem? (i := 0) rfl) rfl
      have t20 : ρ (.tmp 20) = v 12 := ks 12 20 (by decide) rfl
      rw [d12] at t20
      simp [execOp, go_sem, t20]
      exact ⟨hC, Below.refl _ _, rfl⟩
  case fin =>
    intro v W hC hall
    have hL2 : v 13 = .string (catT [(twoT a.toNat), (twoT b.toNat), (twoT (8 + (s.size : Int)).toNat), (twoT 0), s]) := hall 13 (by decide)
    simp [upto, Act.put]
    rw [hL2]
    clear hall hL2
    have hE := hidS (hB1.out.trans (hC.mono hB1.out.size))
    go_wp2
    go_ret
    exact ⟨rfl, hE.out⟩

set_option maxHeartbeats 4000000 in
theorem echoBytes_x (c a q : Int) (s : ByteArray) (w : World) (ha : wordB a = true) (hq : wordB q = true) (hf0 : 0 ≤ c) (hf1 : c ≤ 255) (hs : s.size ≤ 1000) :
    Calls Tryz.prog 191 #[.agg #[.int .i64 c, .int .i64 a, .int .i64 q, .string s]] w fun e w' => e = .returned (.string (catT [rowT [c, 0, 0, 0], twoT a.toNat, twoT q.toNat, s])) ∧ Below w.heap.size w w' := by
  have hwf : IntKind.u8.wrap c = c := IntWalk.u8_in _ (by omega)
  have hr : (rowT [c, 0, 0, 0]).size = 4 := rowT_size _
  have HP := hidS (Cells.new w #[.int .i64 c, .int .i64 a, .int .i64 q, .string s] 115)
  have hB1 := hidS ((Below.refl w.heap.size w).alloc (Nat.le_refl _) (.cells #[.int .i64 c, .int .i64 a, .int .i64 q, .string s] 115))
  go_enter Tryz.func191, Tryz.ntmps191
  go_wp2_with fail
  generalize w.alloc (.cells #[.int .i64 c, .int .i64 a, .int .i64 q, .string s] 115) = w1 at HP hB1 ⊢
  refine grow_kinds 16 [.is (.pointer (some ⟨w.heap.size, 0, none⟩)), .is (.int .i64 c), .is (.int .u8 c), .row (rowL [c, 0, 0, 0]), .is (.string (rowT [c, 0, 0, 0])), .is (.pointer (some ⟨w.heap.size, 1, none⟩)), .is (.int .i64 a), .is (.string (twoT a.toNat)), .is (.pointer (some ⟨w.heap.size, 2, none⟩)), .is (.int .i64 q), .is (.string (twoT q.toNat)), .is (.pointer (some ⟨w.heap.size, 3, none⟩)), .is (.string s), .vals [.string (rowT [c, 0, 0, 0]), .string (twoT a.toNat), .string (twoT q.toNat), .string s], .is (.string (catT [(rowT [c, 0, 0, 0]), (twoT a.toNat), (twoT q.toNat), s])), .is (.string (catT [(rowT [c, 0, 0, 0]), (twoT a.toNat), (twoT q.toNat), s]))] rfl (by kernel_rfl) (by kernel_rfl) ?steps ?fin
  case steps =>
    refine ⟨?_, ?_, ?_, ?_, ?_, ?_, ?_, ?_, ?_, ?_, ?_, ?_, ?_, ?_, ?_, ?_, trivial⟩
    · refine ⟨rfl, fun v W ρ hC kc kf ks ki kd => ?_⟩
      have t1 : ρ (.tmp 1) = .pointer (some ⟨w.heap.size, 0, none⟩) := ki 1 (by decide)
      simp [execOp, go_sem, t1]
      exact ⟨hC, Below.refl _ _, rfl⟩
    · refine ⟨rfl, fun v W ρ hC kc kf ks ki kd => ?_⟩
      have d0 : v 0 = .pointer (some ⟨w.heap.size, 0, none⟩) := kd _ (Array.mem_of_getElem? (i := 0) rfl) rfl
      have t3 : ρ (.tmp 3) = v 0 := ks 0 3 (by decide) rfl
      rw [d0] at t3
      have hp := (HP.out.later hC).2
      have c0 := hp 0
      have c1 := hp 1
      have c2 := hp 2
      have c3 := hp 3
      simp at c0 c1 c2 c3
      simp [execOp, go_sem, t3, c0]
      exact ⟨hC, Below.refl _ _, rfl⟩
    · refine ⟨rfl, fun v W ρ hC kc kf ks ki kd => ?_⟩
      have d1 : v 1 = .int .i64 c := kd _ (Array.mem_of_getElem? (i := 0) rfl) rfl
      have t4 : ρ (.tmp 4) = v 1 := ks 1 4 (by decide) rfl
      rw [d1] at t4
      simp [execOp, go_sem, t4, hwf]
      exact ⟨hC, Below.refl _ _, rfl⟩
    · refine ⟨rfl, fun v W ρ hC kc kf ks ki kd => ?_⟩
      have d2 : v 2 = .int .u8 c := kd _ (Array.mem_of_getElem? (i := 0) rfl) rfl
      have t5 : ρ (.tmp 5) = v 2 := ks 2 5 (by decide) rfl
      rw [d2] at t5
      simp [execOp, go_sem, t5, kc]
      exact ⟨hC.alloc hC.size _, (Below.refl _ _).alloc (Nat.le_refl _) _, W.heap.size, rfl, row_at [c, 0, 0, 0] (by simp; omega)⟩
    · refine ⟨rfl, fun v W ρ hC kc kf ks ki kd => ?_⟩
      obtain ⟨B3, e3, hB3⟩ : ∃ B, v 3 = .slice (some ⟨B, 0, none⟩) (rowL [c, 0, 0, 0]).length (rowL [c, 0, 0, 0]).length ∧ BytesAt B (rowL [c, 0, 0, 0]) W := kd _ (Array.mem_of_getElem? (i := 0) rfl) rfl
      have t6 : ρ (.tmp 6) = v 3 := ks 3 6 (by decide) rfl
      rw [e3] at t6
      have hcv := BytesAt.conv (rowL [c, 0, 0, 0]).length hB3
      simp [execOp, go_sem, t6, hcv]
      exact ⟨hC, Below.refl _ _, rfl⟩
    · refine ⟨rfl, fun v W ρ hC kc kf ks ki kd => ?_⟩
      have t1 : ρ (.tmp 1) = .pointer (some ⟨w.heap.size, 0, none⟩) := ki 1 (by decide)
      simp [execOp, go_sem, t1]
      exact ⟨hC, Below.refl _ _, rfl⟩
    · refine ⟨rfl, fun v W ρ hC kc kf ks ki kd => ?_⟩
      have d5 : v 5 = .pointer (some ⟨w.heap.size, 1, none⟩) := kd _ (Array.mem_of_getElem? (i := 0) rfl) rfl
      have t8 : ρ (.tmp 8) = v 5 := ks 5 8 (by decide) rfl
      rw [d5] at t8
      have hp := (HP.out.later hC).2
      have c0 := hp 0
      have c1 := hp 1
      have c2 := hp 2
      have c3 := hp 3
      simp at c0 c1 c2 c3
      simp [execOp, go_sem, t8, c1]
      exact ⟨hC, Below.refl _ _, rfl⟩
    · refine ⟨rfl, fun v W ρ hC kc kf ks ki kd => ?_⟩
      have d6 : v 6 = .int .i64 a := kd _ (Array.mem_of_getElem? (i := 0) rfl) rfl
      have t9 : ρ (.tmp 9) = v 6 := ks 6 9 (by decide) rfl
      rw [d6] at t9
      simp [execOp, go_sem, t9, kf]
      exact Calls.mono (implWord_x _ _ (by assumption)) (fun e x h => ⟨_, h.1, hC.trans (h.2.mono hC.size), h.2, rfl⟩)
    · refine ⟨rfl, fun v W ρ hC kc kf ks ki kd => ?_⟩
      have t1 : ρ (.tmp 1) = .pointer (some ⟨w.heap.size, 0, none⟩) := ki 1 (by decide)
      simp [execOp, go_sem, t1]
      exact ⟨hC, Below.refl _ _, rfl⟩
    · refine ⟨rfl, fun v W ρ hC kc kf ks ki kd => ?_⟩
      have d8 : v 8 = .pointer (some ⟨w.heap.size, 2, none⟩) := kd _ (Array.mem_of_getElem? (i := 0) rfl) rfl
      have t11 : ρ (.tmp 11) = v 8 := ks 8 11 (by decide) rfl
      rw [d8] at t11
      have hp := (HP.out.later hC).2
      have c0 := hp 0
      have c1 := hp 1
      have c2 := hp 2
      have c3 := hp 3
      simp at c0 c1 c2 c3
      simp [execOp, go_sem, t11, c2]
      exact ⟨hC, Below.refl _ _, rfl⟩
    · refine ⟨rfl, fun v W ρ hC kc kf ks ki kd => ?_⟩
      have d9 : v 9 = .int .i64 q := kd _ (Array.mem_of_getElem? (i := 0) rfl) rfl
      have t12 : ρ (.tmp 12) = v 9 := ks 9 12 (by decide) rfl
      rw [d9] at t12
      simp [execOp, go_sem, t12, kf]
      exact Calls.mono (implWord_x _ _ (by assumption)) (fun e x h => ⟨_, h.1, hC.trans (h.2.mono hC.size), h.2, rfl⟩)
    · refine ⟨rfl, fun v W ρ hC kc kf ks ki kd => ?_⟩
      have t1 : ρ (.tmp 1) = .pointer (some ⟨w.heap.size, 0, none⟩) := ki 1 (by decide)
      simp [execOp, go_sem, t1]
      exact ⟨hC, Below.refl _ _, rfl⟩
    · refine ⟨rfl, fun v W ρ hC kc kf ks ki kd => ?_⟩
      have d11 : v 11 = .pointer (some ⟨w.heap.size, 3, none⟩) := kd _ (Array.mem_of_getElem? (i := 0) rfl) rfl
      have t14 : ρ (.tmp 14) = v 11 := ks 11 14 (by decide) rfl
      rw [d11] at t14
      have hp := (HP.out.later hC).2
      have c0 := hp 0
      have c1 := hp 1
      have c2 := hp 2
      have c3 := hp 3
      simp at c0 c1 c2 c3
      simp [execOp, go_sem, t14, c3]
      exact ⟨hC, Below.refl _ _, rfl⟩
    · refine ⟨rfl, fun v W ρ hC kc kf ks ki kd => ?_⟩
      have d4 : v 4 = .string (rowT [c, 0, 0, 0]) := kd _ (Array.mem_of_getElem? (i := 0) rfl) rfl
      have t7 : ρ (.tmp 7) = v 4 := ks 4 7 (by decide) rfl
      rw [d4] at t7
      have d7 : v 7 = .string (twoT a.toNat) := kd _ (Array.mem_of_getElem? (i := 1) rfl) rfl
      have t10 : ρ (.tmp 10) = v 7 := ks 7 10 (by decide) rfl
      rw [d7] at t10
      have d10 : v 10 = .string (twoT q.toNat) := kd _ (Array.mem_of_getElem? (i := 2) rfl) rfl
      have t13 : ρ (.tmp 13) = v 10 := ks 10 13 (by decide) rfl
      rw [d10] at t13
      have d12 : v 12 = .string s := kd _ (Array.mem_of_getElem? (i := 3) rfl) rfl
      have t15 : ρ (.tmp 15) = v 12 := ks 12 15 (by decide) rfl
      rw [d12] at t15
      simp [execOp, go_sem, t7, t10, t13, t15]
      exact ⟨hC.alloc hC.size _, (Below.refl _ _).alloc (Nat.le_refl _) _, W.heap.size, rfl, vals_at [.string (rowT [c, 0, 0, 0]), .string (twoT a.toNat), .string (twoT q.toNat), .string s] _⟩
    · refine ⟨rfl, fun v W ρ hC kc kf ks ki kd => ?_⟩
      obtain ⟨B13, e13, hB13⟩ : ∃ B, v 13 = .slice (some ⟨B, 0, none⟩) 4 4 ∧ ValsAt B [.string (rowT [c, 0, 0, 0]), .string (twoT a.toNat), .string (twoT q.toNat), .string s] W := kd _ (Array.mem_of_getElem? (i := 0) rfl) rfl
      have t16 : ρ (.tmp 16) = v 13 := ks 13 16 (by decide) rfl
      rw [e13] at t16
      simp [execOp, go_sem, t16, kf]
      exact Calls.mono (joinTexts_any B13 [(rowT [c, 0, 0, 0]), (twoT a.toNat), (twoT q.toNat), s] _ (ValsAt.strs (ts := [(rowT [c, 0, 0, 0]), (twoT a.toNat), (twoT q.toNat), s]) hB13) hB13.1 (by simp) (by simp [twoT_size, fourT_size, rowT_size]; omega)) (fun e x h => ⟨_, h.1, hC.trans (h.2.mono hC.size), h.2, rfl⟩)
    · refine ⟨rfl, fun v W ρ hC kc kf ks ki kd => ?_⟩
      have d14 : v 14 = .string (catT [(rowT [c, 0, 0, 0]), (twoT a.toNat), (twoT q.toNat), s]) := kd _ (Array.mem_of_getElem? (i := 0) rfl) rfl
      have t17 : ρ (.tmp 17) = v 14 := ks 14 17 (by decide) rfl
      rw [d14] at t17
      simp [execOp, go_sem, t17]
      exact ⟨hC, Below.refl _ _, rfl⟩
  case fin =>
    intro v W hC hall
    have hL2 : v 15 = .string (catT [(rowT [c, 0, 0, 0]), (twoT a.toNat), (twoT q.toNat), s]) := hall 15 (by decide)
    simp [upto, Act.put]
    rw [hL2]
    clear hall hL2
    have hE := hidS (hB1.out.trans (hC.mono hB1.out.size))
    go_wp2
    go_ret
    exact ⟨rfl, hE.out⟩

set_option maxHeartbeats 1000000 in
theorem errBytes_x (s : ByteArray) (w : World) (hs : s.size ≤ 1000) :
    Calls Tryz.prog 188 #[.agg #[.string s]] w fun e w' => e = .returned (.string (catT [rowT [3, 1, 0, 0, 0, 0, 0, 0], s])) ∧ Below w.heap.size w w' := by
  have hcv : (convert 22 9 (.slice (some ⟨w.heap.size + 1, 0, none⟩) 8 8)).run Tryz.prog ((w.alloc (.cells #[.string s] 113)).alloc (.cells #[.int .u8 3, .int .u8 1, .int .u8 0, .int .u8 0, .int .u8 0, .int .u8 0, .int .u8 0, .int .u8 0] 5)) = .ok (.string (rowT [3, 1, 0, 0, 0, 0, 0, 0])) ((w.alloc (.cells #[.string s] 113)).alloc (.cells #[.int .u8 3, .int .u8 1, .int .u8 0, .int .u8 0, .int .u8 0, .int .u8 0, .int .u8 0, .int .u8 0] 5)) := by
    have e : (w.alloc (.cells #[.string s] 113)).heap.size = w.heap.size + 1 := by simp
    have h := BytesAt.conv 8 (row_at (W := w.alloc (.cells #[.string s] 113)) [3, 1, 0, 0, 0, 0, 0, 0] (by simp))
    rw [e] at h
    exact h
  have hB1 := hidS (((Below.refl w.heap.size w).alloc (Nat.le_refl _) (.cells #[.string s] 113)).alloc (by simp) (.cells #[.int .u8 3, .int .u8 1, .int .u8 0, .int .u8 0, .int .u8 0, .int .u8 0, .int .u8 0, .int .u8 0] 5))
  have HP := hidS ((Cells.new w #[.string s] 113).later ((Below.refl _ (w.alloc (.cells #[.string s] 113))).alloc (Nat.le_refl _) (.cells #[.int .u8 3, .int .u8 1, .int .u8 0, .int .u8 0, .int .u8 0, .int .u8 0, .int .u8 0, .int .u8 0] 5)))
  have HV := hidS (fun W : World => vals_at (W := W) [.string (rowT [3, 1, 0, 0, 0, 0, 0, 0]), .string s] 9)
  go_enter Tryz.func188, Tryz.ntmps188
  go_wp2_with fail
  have e2 : ((w.alloc (.cells #[.string s] 113)).alloc (.cells #[.int .u8 3, .int .u8 1, .int .u8 0, .int .u8 0, .int .u8 0, .int .u8 0, .int .u8 0, .int .u8 0] 5)).heap.size = w.heap.size + 2 := by simp
  have hv := HV.out ((w.alloc (.cells #[.string s] 113)).alloc (.cells #[.int .u8 3, .int .u8 1, .int .u8 0, .int .u8 0, .int .u8 0, .int .u8 0, .int .u8 0, .int .u8 0] 5))
  rw [e2] at hv
  have hb2 := hidS (hB1.out.alloc hB1.out.size (.cells #[.string (rowT [3, 1, 0, 0, 0, 0, 0, 0]), .string s] 9))
  refine (joinTexts_any (w.heap.size + 2) [rowT [3, 1, 0, 0, 0, 0, 0, 0], s] _ (ValsAt.strs (ts := [rowT [3, 1, 0, 0, 0, 0, 0, 0], s]) hv) hv.1 (by simp) (by simp [rowT_size]; omega)).mono ?_
  rintro _ w3 ⟨rfl, hb3⟩
  have hE := hidS (hb2.out.trans (hb3.mono hb2.out.size))
  clear hb3 hb2 hv e2 HV HP hB1 hcv
  go_wp2
  go_ret
  exact ⟨rfl, hE.out⟩
end Go.Proofs.YtedknnkdnccfmaaGreatDoor
