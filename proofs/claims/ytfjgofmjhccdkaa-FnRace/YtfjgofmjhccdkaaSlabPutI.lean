/- Proved here: impl.isLinked answers whether a slot of a right slab is linked; impl.SlabPut answers the slab with one holder less at a slot, in memory of its own, or a code; all old memory stays (conditions: the slab's rows can be read; at most 2^20 numbers; numbers of int64). -/
import Derived.Test.YtfjgofmjhccdkaaAll28
import Derived.Test.YtfjgofmjhccdkaaAll10
namespace Go.Proofs.Ytfjgofmjhccdkaa
open Go.ChangeShapes Go.WideShapes Go.ChangeAt Go.RowKit
set_option linter.unusedVariables false
set_option linter.unusedSimpArgs false
set_option maxRecDepth 100000

theorem right_key {s : Slb} (h : rightSl s = true) {i : Nat} (hi : i < s.slots.length) : 0 ≤ (s.slots.getD i zeroSlt).key ∧ (s.slots.getD i zeroSlt).key ≤ 999 := by
  rw [right_keys] at h
  simp only [Bool.and_eq_true] at h
  exact key_of h.2.1 hi
theorem linked_link {s : Slb} (h : rightSl s = true) {C : Nat} (hC : C < s.slots.length) : linkedB s (C : Int) = (linkN s (s.slots.getD C zeroSlt).key == (C : Int)) := by
  unfold linkedB
  rw [slot_nat]
  obtain ⟨_, q⟩ := link_find (key := (s.slots.getD C zeroSlt).key) h (right_key h hC).1
  rcases q with ⟨q1, q2⟩ | ⟨q1, q2, q3⟩
  · rw [q1, q2, beq_eq_false_iff_ne.2 (by omega), beq_eq_false_iff_ne.2 (by omega)]
  · rw [q3]
set_option maxHeartbeats 4000000 in
theorem isLinked_any (bS oS bH oH cS cH : Nat) (s : Slb) (C : Nat) (w : World) (hR : SlabZ (some ⟨bS, oS, none⟩) (some ⟨bH, oH, none⟩) s w) (hr : rightSl s = true) (hC0 : C < s.slots.length) :
    Calls Try.prog 70 #[.agg #[.slice (some ⟨bS, oS, none⟩) s.slots.length cS, .slice (some ⟨bH, oH, none⟩) s.heads.length cH], .int .i64 (C : Int)] w fun e w' => e = .returned (.bool (linkedB s (C : Int))) ∧ Below w.heap.size w w' := by
  rw [linked_link hr hC0]
  obtain ⟨_, n1, n2, n3, n4⟩ := right_leads hr
  have hCC : (0 : Int) ≤ (C : Int) ∧ (C : Int) < (s.slots.length : Int) := by omega
  have hk := right_key hr hC0
  have HSL := hidS (fun W (h : Below w.heap.size w W) => (hR.slots.later h).slot hC0)
  generalize s.slots.getD C zeroSlt = x at hk HSL ⊢
  have HL := hidS (fun W (h : Below w.heap.size w W) => linkTo_any bS oS bH oH cS cH s x.key W (hR.later h) hr hk.1 hk.2)
  have HCL : Hid (∀ W, Below w.heap.size w W → W.cell? ⟨(adrL bS oS bH oH (chN s x.key) (linkP s x.key)).1, (adrL bS oS bH oH (chN s x.key) (linkP s x.key)).2, none⟩ = some (.int .i64 (linkN s x.key))) := hidS (fun W (h : Below w.heap.size w W) => (link_cell (hR.later h) (chN_lt (s := s) hk.1 n3).1 (link_find hr hk.1).1).2)
  generalize (adrL bS oS bH oH (chN s x.key) (linkP s x.key)).1 = B at HL HCL
  generalize (adrL bS oS bH oH (chN s x.key) (linkP s x.key)).2 = O at HL HCL
  generalize linkN s x.key = lv at HCL ⊢
  have HA := hidS (heap_newG w (.cells #[.slice (some ⟨bS, oS, none⟩) s.slots.length cS, .slice (some ⟨bH, oH, none⟩) s.heads.length cH] 26))
  have HB0 := hidS ((Below.refl w.heap.size w).alloc (Nat.le_refl _) (.cells #[.slice (some ⟨bS, oS, none⟩) s.slots.length cS, .slice (some ⟨bH, oH, none⟩) s.heads.length cH] 26))
  clear hR hr hC0 hk
  go_enter Try.func70, Try.ntmps70
  go_wp2_with fail
  generalize w.alloc (.cells #[.slice (some ⟨bS, oS, none⟩) s.slots.length cS, .slice (some ⟨bH, oH, none⟩) s.heads.length cH] 26) = w0 at HA HB0 ⊢
  refine grow_guarded 13 [.is (.agg #[.slice (some ⟨bS, oS, none⟩) s.slots.length cS, .slice (some ⟨bH, oH, none⟩) s.heads.length cH]), .is (.pointer (some ⟨w.heap.size, 0, none⟩)), .is (.slice (some ⟨bS, oS, none⟩) s.slots.length cS), .is (.int .i64 (C : Int)), .is (.pointer (some ⟨bS, oS + C * 4, none⟩)), .is (.pointer (some ⟨bS, oS + C * 4, none⟩)), .is (.int .i64 x.key), .is (.pointer (some ⟨B, O, none⟩)), .is (.pointer (some ⟨B, O, none⟩)), .is (.int .i64 lv), .is (.int .i64 (C : Int)), .is (.bool (lv == (C : Int))), .is (.bool (lv == (C : Int)))] rfl (by kernel_rfl) (by kernel_rfl) ?steps1 ?fin1
  case steps1 =>
    refine ⟨?_, ?_, ?_, ?_, ?_, ?_, ?_, ?_, ?_, ?_, ?_, ?_, ?_, trivial⟩
    · refine stepW_of_u ⟨rfl, fun v W ρ hC kc kf ks ki kd => ?_⟩
      have t2 : ρ (.tmp 2) = .pointer (some ⟨w.heap.size, 0, none⟩) := ki 2 (by decide)
      have hg := blk_later HA.out hC
      have c0 := blk_cell hg 0
      have c1 := blk_cell hg 1
      simp at c0 c1
      simp [execOp, go_sem, kc, t2, c0, c1]
      exact ⟨hC, Below.refl _ _, rfl⟩
    · refine stepW_of_u ⟨rfl, fun v W ρ hC kc kf ks ki kd => ?_⟩
      have t2 : ρ (.tmp 2) = .pointer (some ⟨w.heap.size, 0, none⟩) := ki 2 (by decide)
      simp [execOp, go_sem, kc, t2]
      exact ⟨hC, Below.refl _ _, rfl⟩
    · refine stepW_of_u ⟨rfl, fun v W ρ hC kc kf ks ki kd => ?_⟩
      have d1 : v 1 = .pointer (some ⟨w.heap.size, 0, none⟩) := (kdj kd 1 rfl :)
      have t6 : ρ (.tmp 6) = .pointer (some ⟨w.heap.size, 0, none⟩) := (ks 1 6 (by decide) rfl).trans d1
      have hg := blk_later HA.out hC
      have c0 := blk_cell hg 0
      simp at c0
      simp [execOp, go_sem, kc, t6, c0]
      exact ⟨hC, Below.refl _ _, rfl⟩
    · refine stepW_of_u ⟨rfl, fun v W ρ hC kc kf ks ki kd => ?_⟩
      have t1 : ρ (.tmp 1) = .int .i64 (C : Int) := ki 1 (by decide)
      simp [execOp, go_sem, kc, t1]
      exact ⟨hC, Below.refl _ _, rfl⟩
    · refine stepW_of_u ⟨rfl, fun v W ρ hC kc kf ks ki kd => ?_⟩
      have d2 : v 2 = .slice (some ⟨bS, oS, none⟩) s.slots.length cS := (kdj kd 2 rfl :)
      have t7 : ρ (.tmp 7) = .slice (some ⟨bS, oS, none⟩) s.slots.length cS := (ks 2 7 (by decide) rfl).trans d2
      have d3 : v 3 = .int .i64 (C : Int) := (kdj kd 3 rfl :)
      have t8 : ρ (.tmp 8) = .int .i64 (C : Int) := (ks 3 8 (by decide) rfl).trans d3
      simp [execOp, go_sem, kc, t7, t8, hCC]
      exact ⟨hC, Below.refl _ _, rfl⟩
    · refine stepW_of_u ⟨rfl, fun v W ρ hC kc kf ks ki kd => ?_⟩
      have d4 : v 4 = .pointer (some ⟨bS, oS + C * 4, none⟩) := (kdj kd 4 rfl :)
      have t9 : ρ (.tmp 9) = .pointer (some ⟨bS, oS + C * 4, none⟩) := (ks 4 9 (by decide) rfl).trans d4
      simp [execOp, go_sem, kc, t9]
      exact ⟨hC, Below.refl _ _, rfl⟩
    · refine stepW_of_u ⟨rfl, fun v W ρ hC kc kf ks ki kd => ?_⟩
      have d5 : v 5 = .pointer (some ⟨bS, oS + C * 4, none⟩) := (kdj kd 5 rfl :)
      have t10 : ρ (.tmp 10) = .pointer (some ⟨bS, oS + C * 4, none⟩) := (ks 5 10 (by decide) rfl).trans d5
      obtain ⟨b', o', eS, lS, c0, c1, c2, c3⟩ := HSL.out W (HB0.out.trans (hC.mono HB0.out.size))
      injection eS with eS; injection eS with eS1 eS2
      subst eS1 eS2
      simp [execOp, go_sem, kc, t10, c0]
      exact ⟨hC, Below.refl _ _, rfl⟩
    · refine stepW_of_u ⟨rfl, fun v W ρ hC kc kf ks ki kd => ?_⟩
      have d0 : v 0 = .agg #[.slice (some ⟨bS, oS, none⟩) s.slots.length cS, .slice (some ⟨bH, oH, none⟩) s.heads.length cH] := (kdj kd 0 rfl :)
      have t5 : ρ (.tmp 5) = .agg #[.slice (some ⟨bS, oS, none⟩) s.slots.length cS, .slice (some ⟨bH, oH, none⟩) s.heads.length cH] := (ks 0 5 (by decide) rfl).trans d0
      have d6 : v 6 = .int .i64 x.key := (kdj kd 6 rfl :)
      have t11 : ρ (.tmp 11) = .int .i64 x.key := (ks 6 11 (by decide) rfl).trans d6
      simp [execOp, go_sem, t5, t11, kf]
      exact Calls.mono (HL.out W (HB0.out.trans (hC.mono HB0.out.size))) (fun e x h => ⟨_, h.1, hC.trans (h.2.mono hC.size), h.2, rfl⟩)
    · refine stepW_of_u ⟨rfl, fun v W ρ hC kc kf ks ki kd => ?_⟩
      have d7 : v 7 = .pointer (some ⟨B, O, none⟩) := (kdj kd 7 rfl :)
      have t12 : ρ (.tmp 12) = .pointer (some ⟨B, O, none⟩) := (ks 7 12 (by decide) rfl).trans d7
      simp [execOp, go_sem, kc, t12]
      exact ⟨hC, Below.refl _ _, rfl⟩
    · refine stepW_of_u ⟨rfl, fun v W ρ hC kc kf ks ki kd => ?_⟩
      have d8 : v 8 = .pointer (some ⟨B, O, none⟩) := (kdj kd 8 rfl :)
      have t13 : ρ (.tmp 13) = .pointer (some ⟨B, O, none⟩) := (ks 8 13 (by decide) rfl).trans d8
      have c0 := HCL.out W (HB0.out.trans (hC.mono HB0.out.size))
      simp [execOp, go_sem, kc, t13, c0]
      exact ⟨hC, Below.refl _ _, rfl⟩
    · refine stepW_of_u ⟨rfl, fun v W ρ hC kc kf ks ki kd => ?_⟩
      have t1 : ρ (.tmp 1) = .int .i64 (C : Int) := ki 1 (by decide)
      simp [execOp, go_sem, kc, t1]
      exact ⟨hC, Below.refl _ _, rfl⟩
    · refine stepW_of_u ⟨rfl, fun v W ρ hC kc kf ks ki kd => ?_⟩
      have d9 : v 9 = .int .i64 lv := (kdj kd 9 rfl :)
      have t14 : ρ (.tmp 14) = .int .i64 lv := (ks 9 14 (by decide) rfl).trans d9
      have d10 : v 10 = .int .i64 (C : Int) := (kdj kd 10 rfl :)
      have t15 : ρ (.tmp 15) = .int .i64 (C : Int) := (ks 10 15 (by decide) rfl).trans d10
      simp [execOp, go_sem, kc, t14, t15]
      exact ⟨hC, Below.refl _ _, rfl⟩
    · refine stepW_of_u ⟨rfl, fun v W ρ hC kc kf ks ki kd => ?_⟩
      have d11 : v 11 = .bool (lv == (C : Int)) := (kdj kd 11 rfl :)
      have t16 : ρ (.tmp 16) = .bool (lv == (C : Int)) := (ks 11 16 (by decide) rfl).trans d11
      simp [execOp, go_sem, kc, t16]
      exact ⟨hC, Below.refl _ _, rfl⟩
  intro v1 W1 hb1 hall
  have hv1 : v1 12 = .bool (lv == (C : Int)) := hall 12 (by decide)
  simp [upto, Act.put]
  rw [hv1]
  clear hall hv1
  go_wp2_with fail
  go_ret
  exact ⟨rfl, HB0.out.trans (hb1.mono HB0.out.size)⟩
set_option maxHeartbeats 4000000 in
theorem implSlabPut_any (aS aH : Option Addr) (cS cH : Nat) (s : Slb) (c : Int) (w : World) (hR : SlabZ aS aH s w) (hF : SlabFit s) (h1 : s.slots.length ≤ 1048576) (h2 : s.heads.length ≤ 1048576) :
    Calls Try.prog 20 #[.agg #[.slice aS s.slots.length cS, .slice aH s.heads.length cH], .int .i64 c] w fun e w' => OutAns (putS s c) (putA s c) (putC s c) w e w' := by
  have HS := hidS (fun W (h : Below w.heap.size w W) => implSlabRight_any aS aH cS cH s W (hR.later h) hF h1 h2)
  have HI := hidS (fun W => isSlot_any aS aH s.slots.length cS s.heads.length cH c W h1)
  have ILL : Hid (∀ q : Int, q ≠ 0 → putC s c = q → ∀ e w', e = .returned (.agg #[.slice none 0 0, .slice none 0 0, .int .i64 0, .int .i64 q]) ∧ Below w.heap.size w w' → OutAns (putS s c) (putA s c) (putC s c) w e w') := by
    refine hidS (fun q hq hc e w' h => ?_)
    have e1 : putS s c = ⟨[], []⟩ := by unfold putS; rw [hc, if_neg hq]
    have e2 : putA s c = 0 := by unfold putA; rw [hc, if_neg hq]
    rw [e1, e2, hc]
    exact ill_out h
  cases hr : rightSl s
  · have EB : beginAns s c = 1 := by unfold beginAns atB; rw [hr]; rfl
    have EC : putC s c = 1 := by unfold putC; rw [EB, if_neg (by decide)]
    refine Calls.mono (R := fun e w' => e = .returned (.agg #[.slice none 0 0, .slice none 0 0, .int .i64 0, .int .i64 1]) ∧ Below w.heap.size w w') ?_ (ILL.out 1 (by decide) EC)
    rw [hr] at HS
    clear hr hR ILL EB EC
    have hGA0 : Hid (((w.alloc (.cells #[.slice aS s.slots.length cS, .slice aH s.heads.length cH] 26)).alloc (.cells #[.slice none 0 0, .slice none 0 0, .int .i64 0, .int .i64 0] 47)).heap[w.heap.size]? = some (.cells #[.slice aS s.slots.length cS, .slice aH s.heads.length cH] 26)) := by
      show _ = _
      have := blk_alloc (heap_newG w (.cells #[.slice aS s.slots.length cS, .slice aH s.heads.length cH] 26)) (.cells #[.slice none 0 0, .slice none 0 0, .int .i64 0, .int .i64 0] 47)
      simpa using this
    have hGR0 : Hid (((w.alloc (.cells #[.slice aS s.slots.length cS, .slice aH s.heads.length cH] 26)).alloc (.cells #[.slice none 0 0, .slice none 0 0, .int .i64 0, .int .i64 0] 47)).heap[w.heap.size + 1]? = some (.cells #[.slice none 0 0, .slice none 0 0, .int .i64 0, .int .i64 0] 47)) := by
      show _ = _
      have := heap_newG (w.alloc (.cells #[.slice aS s.slots.length cS, .slice aH s.heads.length cH] 26)) (.cells #[.slice none 0 0, .slice none 0 0, .int .i64 0, .int .i64 0] 47)
      simpa using this
    have hL0 := hidS (((Below.refl w.heap.size w).alloc (Nat.le_refl _) (.cells #[.slice aS s.slots.length cS, .slice aH s.heads.length cH] 26)).alloc (by simp) (.cells #[.slice none 0 0, .slice none 0 0, .int .i64 0, .int .i64 0] 47))
    go_enter Try.func20, Try.ntmps20
    go_wp2_with fail
    refine (HS.out _ hL0.out).mono ?_
    rintro _ w1 ⟨rfl, hb1⟩
    have hGA1 := hidS (blk_later hGA0.out hb1)
    have hGR1 := hidS (blk_later hGR0.out hb1)
    have hL1 := hidS (hL0.out.trans (hb1.mono hL0.out.size))
    clear hb1 hL0 hGA0 hGR0
    have cA0 := blk_cell hGA1.out 0
    have cA1 := blk_cell hGA1.out 1
    simp at cA0 cA1
    have kR := blk_cell hGR1.out
    have fR := blk_free hGR1.out
    go_wp2_with fail
    refine bodyPost_ret (v := .agg #[.slice none 0 0, .slice none 0 0, .int .i64 0, .int .i64 1]) (by simp [results, Try.results20, go_sem, *]) rfl ⟨rfl, ?_⟩
    repeat (refine below_at ?_ (by omega))
    exact hL1.out
  rw [hr] at HS
  cases hi : inB s.slots.length c
  · have EB : beginAns s c = 1 := by
      unfold beginAns atB
      rw [hr]
      unfold inB at hi
      simp at hi
      rw [if_neg (by simp; omega)]
    have EC : putC s c = 1 := by unfold putC; rw [EB, if_neg (by decide)]
    refine Calls.mono (R := fun e w' => e = .returned (.agg #[.slice none 0 0, .slice none 0 0, .int .i64 0, .int .i64 1]) ∧ Below w.heap.size w w') ?_ (ILL.out 1 (by decide) EC)
    rw [hi] at HI
    clear hr hR ILL EB EC hi
    have hGA0 : Hid (((w.alloc (.cells #[.slice aS s.slots.length cS, .slice aH s.heads.length cH] 26)).alloc (.cells #[.slice none 0 0, .slice none 0 0, .int .i64 0, .int .i64 0] 47)).heap[w.heap.size]? = some (.cells #[.slice aS s.slots.length cS, .slice aH s.heads.length cH] 26)) := by
      show _ = _
      have := blk_alloc (heap_newG w (.cells #[.slice aS s.slots.length cS, .slice aH s.heads.length cH] 26)) (.cells #[.slice none 0 0, .slice none 0 0, .int .i64 0, .int .i64 0] 47)
      simpa using this
    have hGR0 : Hid (((w.alloc (.cells #[.slice aS s.slots.length cS, .slice aH s.heads.length cH] 26)).alloc (.cells #[.slice none 0 0, .slice none 0 0, .int .i64 0, .int .i64 0] 47)).heap[w.heap.size + 1]? = some (.cells #[.slice none 0 0, .slice none 0 0, .int .i64 0, .int .i64 0] 47)) := by
      show _ = _
      have := heap_newG (w.alloc (.cells #[.slice aS s.slots.length cS, .slice aH s.heads.length cH] 26)) (.cells #[.slice none 0 0, .slice none 0 0, .int .i64 0, .int .i64 0] 47)
      simpa using this
    have hL0 := hidS (((Below.refl w.heap.size w).alloc (Nat.le_refl _) (.cells #[.slice aS s.slots.length cS, .slice aH s.heads.length cH] 26)).alloc (by simp) (.cells #[.slice none 0 0, .slice none 0 0, .int .i64 0, .int .i64 0] 47))
    go_enter Try.func20, Try.ntmps20
    go_wp2_with fail
    refine (HS.out _ hL0.out).mono ?_
    rintro _ w1 ⟨rfl, hb1⟩
    have hGA1 := hidS (blk_later hGA0.out hb1)
    have hGR1 := hidS (blk_later hGR0.out hb1)
    have hL1 := hidS (hL0.out.trans (hb1.mono hL0.out.size))
    clear hb1 hL0 hGA0 hGR0
    have cA0 := blk_cell hGA1.out 0
    have cA1 := blk_cell hGA1.out 1
    simp at cA0 cA1
    go_wp2_with fail
    refine (HI.out _).mono ?_
    rintro _ w2 ⟨rfl, hb2⟩
    clear cA0 cA1
    have hGA2 := hidS (blk_later hGA1.out hb2)
    have hGR2 := hidS (blk_later hGR1.out hb2)
    have hL2 := hidS (hL1.out.trans (hb2.mono hL1.out.size))
    clear hb2 hL1 hGA1 hGR1
    have kR := blk_cell hGR2.out
    have fR := blk_free hGR2.out
    go_wp2_with fail
    refine bodyPost_ret (v := .agg #[.slice none 0 0, .slice none 0 0, .int .i64 0, .int .i64 1]) (by simp [results, Try.results20, go_sem, *]) rfl ⟨rfl, ?_⟩
    repeat (refine below_at ?_ (by omega))
    exact hL2.out
  rw [hi] at HI
  obtain ⟨C, rfl, hC⟩ : ∃ C : Nat, c = (C : Int) ∧ C < s.slots.length := by
    unfold inB at hi; simp at hi; exact ⟨c.toNat, by omega, by omega⟩
  have hCC : (0 : Int) ≤ (C : Int) ∧ (C : Int) < (s.slots.length : Int) := by omega
  have EAT : atB s (C : Int) = true := by unfold atB; rw [hr]; simp; omega
  obtain ⟨_, n1, n2, n3, n4⟩ := right_leads hr
  obtain ⟨bS, oS, rfl, _⟩ := hR.slots.slot hC
  obtain ⟨bH, oH, rfl, _⟩ := hR.heads 0 (by omega)
  obtain ⟨x, hx⟩ : ∃ x, s.slots.getD C zeroSlt = x := ⟨_, rfl⟩
  have EX : Hid (slotN s (C : Int) = x) := by show _ = _; rw [slot_nat]; exact hx
  have hx0 := refs_nat hr hC
  rw [hx] at hx0
  obtain ⟨hx0, hx1⟩ := hx0
  have HSL : Hid (∀ W, Below w.heap.size w W → bS < W.heap.size ∧ W.cell? ⟨bS, oS + C * 4, none⟩ = some (.int .i64 x.key) ∧ W.cell? ⟨bS, oS + C * 4 + 1, none⟩ = some (.int .i64 x.gen) ∧ W.cell? ⟨bS, oS + C * 4 + 2, none⟩ = some (.int .i64 x.refs) ∧ W.cell? ⟨bS, oS + C * 4 + 3, none⟩ = some (.int .i64 x.next)) := hidS (fun W h => by
    obtain ⟨b', o', eS, lS, c0, c1, c2, c3⟩ := (hR.slots.later h).slot hC
    injection eS with eS; injection eS with eS1 eS2
    subst eS1 eS2
    rw [hx] at c0 c1 c2 c3
    exact ⟨lS, c0, c1, c2, c3⟩)
  have HFR := hidS (fun W => isFree_any x W)
  by_cases hz : x.refs = 0
  · have EB : beginAns s (C : Int) = 6 := by unfold beginAns; rw [if_pos EAT, EX.out, if_pos hz]
    have EC : putC s (C : Int) = 6 := by unfold putC; rw [EB, if_neg (by decide)]
    refine Calls.mono (R := fun e w' => e = .returned (.agg #[.slice none 0 0, .slice none 0 0, .int .i64 0, .int .i64 6]) ∧ Below w.heap.size w w') ?_ (ILL.out 6 (by decide) EC)
    rw [decide_eq_true hz] at HFR
    clear hr hR ILL EB EC hi hz EAT hx hx0 hx1
    have hGA0 : Hid (((w.alloc (.cells #[.slice (some ⟨bS, oS, none⟩) s.slots.length cS, .slice (some ⟨bH, oH, none⟩) s.heads.length cH] 26)).alloc (.cells #[.slice none 0 0, .slice none 0 0, .int .i64 0, .int .i64 0] 47)).heap[w.heap.size]? = some (.cells #[.slice (some ⟨bS, oS, none⟩) s.slots.length cS, .slice (some ⟨bH, oH, none⟩) s.heads.length cH] 26)) := by
      show _ = _
      have := blk_alloc (heap_newG w (.cells #[.slice (some ⟨bS, oS, none⟩) s.slots.length cS, .slice (some ⟨bH, oH, none⟩) s.heads.length cH] 26)) (.cells #[.slice none 0 0, .slice none 0 0, .int .i64 0, .int .i64 0] 47)
      simpa using this
    have hGR0 : Hid (((w.alloc (.cells #[.slice (some ⟨bS, oS, none⟩) s.slots.length cS, .slice (some ⟨bH, oH, none⟩) s.heads.length cH] 26)).alloc (.cells #[.slice none 0 0, .slice none 0 0, .int .i64 0, .int .i64 0] 47)).heap[w.heap.size + 1]? = some (.cells #[.slice none 0 0, .slice none 0 0, .int .i64 0, .int .i64 0] 47)) := by
      show _ = _
      have := heap_newG (w.alloc (.cells #[.slice (some ⟨bS, oS, none⟩) s.slots.length cS, .slice (some ⟨bH, oH, none⟩) s.heads.length cH] 26)) (.cells #[.slice none 0 0, .slice none 0 0, .int .i64 0, .int .i64 0] 47)
      simpa using this
    have hL0 := hidS (((Below.refl w.heap.size w).alloc (Nat.le_refl _) (.cells #[.slice (some ⟨bS, oS, none⟩) s.slots.length cS, .slice (some ⟨bH, oH, none⟩) s.heads.length cH] 26)).alloc (by simp) (.cells #[.slice none 0 0, .slice none 0 0, .int .i64 0, .int .i64 0] 47))
    go_enter Try.func20, Try.ntmps20
    go_wp2_with fail
    refine (HS.out _ hL0.out).mono ?_
    rintro _ w1 ⟨rfl, hb1⟩
    have hGA1 := hidS (blk_later hGA0.out hb1)
    have hGR1 := hidS (blk_later hGR0.out hb1)
    have hL1 := hidS (hL0.out.trans (hb1.mono hL0.out.size))
    clear hb1 hL0 hGA0 hGR0
    have cA0 := blk_cell hGA1.out 0
    have cA1 := blk_cell hGA1.out 1
    simp at cA0 cA1
    go_wp2_with fail
    refine (HI.out _).mono ?_
    rintro _ w2 ⟨rfl, hb2⟩
    clear cA0 cA1
    have hGA2 := hidS (blk_later hGA1.out hb2)
    have hGR2 := hidS (blk_later hGR1.out hb2)
    have hL2 := hidS (hL1.out.trans (hb2.mono hL1.out.size))
    clear hb2 hL1 hGA1 hGR1
    have cA0 := blk_cell hGA2.out 0
    have cA1 := blk_cell hGA2.out 1
    simp at cA0 cA1
    obtain ⟨lS, c0, c1, c2, c3⟩ := HSL.out _ hL2.out
    go_wp2_with fail
    refine (HFR.out _).mono ?_
    rintro _ w3 ⟨rfl, hb3⟩
    clear cA0 cA1 c0 c1 c2 c3
    have hGA3 := hidS (blk_later hGA2.out hb3)
    have hGR3 := hidS (blk_later hGR2.out hb3)
    have hL3 := hidS (hL2.out.trans (hb3.mono hL2.out.size))
    clear hb3 hL2 hGA2 hGR2
    have kR := blk_cell hGR3.out
    have fR := blk_free hGR3.out
    go_wp2_with fail
    refine bodyPost_ret (v := .agg #[.slice none 0 0, .slice none 0 0, .int .i64 0, .int .i64 6]) (by simp [results, Try.results20, go_sem, *]) rfl ⟨rfl, ?_⟩
    repeat (refine below_at ?_ (by omega))
    exact hL3.out
  rw [decide_eq_false hz] at HFR
  have EB : Hid (beginAns s (C : Int) = 0) := by show _ = _; unfold beginAns; rw [if_pos EAT, EX.out, if_neg hz]
  have HLK := hidS (fun W (h : Below w.heap.size w W) => isLinked_any bS oS bH oH cS cH s C W (hR.later h) hr hC)
  by_cases hf : x.refs = 1 ∧ linkedB s (C : Int) = true
  · have EC : putC s (C : Int) = 10 := by unfold putC; rw [if_pos EB.out, EX.out, if_pos hf]
    refine Calls.mono (R := fun e w' => e = .returned (.agg #[.slice none 0 0, .slice none 0 0, .int .i64 0, .int .i64 10]) ∧ Below w.heap.size w w') ?_ (ILL.out 10 (by decide) EC)
    have hfb : (x.refs == 1) = true := beq_iff_eq.2 hf.1
    rw [hf.2] at HLK
    clear hr hR ILL EB EC hi hz EAT hx hx0 hx1 hf
    have hGA0 : Hid (((w.alloc (.cells #[.slice (some ⟨bS, oS, none⟩) s.slots.length cS, .slice (some ⟨bH, oH, none⟩) s.heads.length cH] 26)).alloc (.cells #[.slice none 0 0, .slice none 0 0, .int .i64 0, .int .i64 0] 47)).heap[w.heap.size]? = some (.cells #[.slice (some ⟨bS, oS, none⟩) s.slots.length cS, .slice (some ⟨bH, oH, none⟩) s.heads.length cH] 26)) := by
      show _ = _
      have := blk_alloc (heap_newG w (.cells #[.slice (some ⟨bS, oS, none⟩) s.slots.length cS, .slice (some ⟨bH, oH, none⟩) s.heads.length cH] 26)) (.cells #[.slice none 0 0, .slice none 0 0, .int .i64 0, .int .i64 0] 47)
      simpa using this
    have hGR0 : Hid (((w.alloc (.cells #[.slice (some ⟨bS, oS, none⟩) s.slots.length cS, .slice (some ⟨bH, oH, none⟩) s.heads.length cH] 26)).alloc (.cells #[.slice none 0 0, .slice none 0 0, .int .i64 0, .int .i64 0] 47)).heap[w.heap.size + 1]? = some (.cells #[.slice none 0 0, .slice none 0 0, .int .i64 0, .int .i64 0] 47)) := by
      show _ = _
      have := heap_newG (w.alloc (.cells #[.slice (some ⟨bS, oS, none⟩) s.slots.length cS, .slice (some ⟨bH, oH, none⟩) s.heads.length cH] 26)) (.cells #[.slice none 0 0, .slice none 0 0, .int .i64 0, .int .i64 0] 47)
      simpa using this
    have hL0 := hidS (((Below.refl w.heap.size w).alloc (Nat.le_refl _) (.cells #[.slice (some ⟨bS, oS, none⟩) s.slots.length cS, .slice (some ⟨bH, oH, none⟩) s.heads.length cH] 26)).alloc (by simp) (.cells #[.slice none 0 0, .slice none 0 0, .int .i64 0, .int .i64 0] 47))
    go_enter Try.func20, Try.ntmps20
    go_wp2_with fail
    refine (HS.out _ hL0.out).mono ?_
    rintro _ w1 ⟨rfl, hb1⟩
    have hGA1 := hidS (blk_later hGA0.out hb1)
    have hGR1 := hidS (blk_later hGR0.out hb1)
    have hL1 := hidS (hL0.out.trans (hb1.mono hL0.out.size))
    clear hb1 hL0 hGA0 hGR0
    have cA0 := blk_cell hGA1.out 0
    have cA1 := blk_cell hGA1.out 1
    simp at cA0 cA1
    go_wp2_with fail
    refine (HI.out _).mono ?_
    rintro _ w2 ⟨rfl, hb2⟩
    clear cA0 cA1
    have hGA2 := hidS (blk_later hGA1.out hb2)
    have hGR2 := hidS (blk_later hGR1.out hb2)
    have hL2 := hidS (hL1.out.trans (hb2.mono hL1.out.size))
    clear hb2 hL1 hGA1 hGR1
    have cA0 := blk_cell hGA2.out 0
    have cA1 := blk_cell hGA2.out 1
    simp at cA0 cA1
    obtain ⟨lS, c0, c1, c2, c3⟩ := HSL.out _ hL2.out
    go_wp2_with fail
    refine (HFR.out _).mono ?_
    rintro _ w3 ⟨rfl, hb3⟩
    clear cA0 cA1 c0 c1 c2 c3
    have hGA3 := hidS (blk_later hGA2.out hb3)
    have hGR3 := hidS (blk_later hGR2.out hb3)
    have hL3 := hidS (hL2.out.trans (hb3.mono hL2.out.size))
    clear hb3 hL2 hGA2 hGR2
    have cA0 := blk_cell hGA3.out 0
    have cA1 := blk_cell hGA3.out 1
    simp at cA0 cA1
    obtain ⟨lS, c0, c1, c2, c3⟩ := HSL.out _ hL3.out
    go_wp2_with fail
    refine (HLK.out _ hL3.out).mono ?_
    rintro _ w4 ⟨rfl, hb4⟩
    clear cA0 cA1 c0 c1 c2 c3
    have hGA4 := hidS (blk_later hGA3.out hb4)
    have hGR4 := hidS (blk_later hGR3.out hb4)
    have hL4 := hidS (hL3.out.trans (hb4.mono hL3.out.size))
    clear hb4 hL3 hGA3 hGR3
    have kR := blk_cell hGR4.out
    have fR := blk_free hGR4.out
    go_wp2_with fail
    refine bodyPost_ret (v := .agg #[.slice none 0 0, .slice none 0 0, .int .i64 0, .int .i64 10]) (by simp [results, Try.results20, go_sem, *]) rfl ⟨rfl, ?_⟩
    repeat (refine below_at ?_ (by omega))
    exact hL4.out
  have EC : putC s (C : Int) = 0 := by unfold putC; rw [if_pos EB.out, EX.out, if_neg hf]
  have ES : putS s (C : Int) = refS s (C : Int) ((slotN s (C : Int)).refs + -1) := by unfold putS; rw [EC, if_pos rfl, Int.sub_eq_add_neg]
  have EA : putA s (C : Int) = (C : Int) := by unfold putA; rw [EC, if_pos rfl]
  have HMO := hidS (fun W (h : Below w.heap.size w W) => moreRefs_any bS oS bH oH cS cH s C (-1) W (hR.later h) hr hC (by omega) (by omega))
  rw [ES, EA, EC]
  have hlen : Hid ((refS s (C : Int) ((slotN s (C : Int)).refs + -1)).slots.length = s.slots.length ∧ (refS s (C : Int) ((slotN s (C : Int)).refs + -1)).heads.length = s.heads.length) := by show _ ∧ _; simp [refS]
  generalize refS s (C : Int) ((slotN s (C : Int)).refs + -1) = t at HMO hlen ⊢
  by_cases hone : x.refs = 1
  · have hfb : (x.refs == 1) = true := beq_iff_eq.2 hone
    have hlk : linkedB s (C : Int) = false := by
      cases hq : linkedB s (C : Int)
      · rfl
      · exact absurd ⟨hone, hq⟩ hf
    rw [hlk] at HLK
    clear hr hR ILL EB EC ES EA hi hz EAT hx hx0 hx1 hf hone hlk
    have hGA0 : Hid (((w.alloc (.cells #[.slice (some ⟨bS, oS, none⟩) s.slots.length cS, .slice (some ⟨bH, oH, none⟩) s.heads.length cH] 26)).alloc (.cells #[.slice none 0 0, .slice none 0 0, .int .i64 0, .int .i64 0] 47)).heap[w.heap.size]? = some (.cells #[.slice (some ⟨bS, oS, none⟩) s.slots.length cS, .slice (some ⟨bH, oH, none⟩) s.heads.length cH] 26)) := by
      show _ = _
      have := blk_alloc (heap_newG w (.cells #[.slice (some ⟨bS, oS, none⟩) s.slots.length cS, .slice (some ⟨bH, oH, none⟩) s.heads.length cH] 26)) (.cells #[.slice none 0 0, .slice none 0 0, .int .i64 0, .int .i64 0] 47)
      simpa using this
    have hGR0 : Hid (((w.alloc (.cells #[.slice (some ⟨bS, oS, none⟩) s.slots.length cS, .slice (some ⟨bH, oH, none⟩) s.heads.length cH] 26)).alloc (.cells #[.slice none 0 0, .slice none 0 0, .int .i64 0, .int .i64 0] 47)).heap[w.heap.size + 1]? = some (.cells #[.slice none 0 0, .slice none 0 0, .int .i64 0, .int .i64 0] 47)) := by
      show _ = _
      have := heap_newG (w.alloc (.cells #[.slice (some ⟨bS, oS, none⟩) s.slots.length cS, .slice (some ⟨bH, oH, none⟩) s.heads.length cH] 26)) (.cells #[.slice none 0 0, .slice none 0 0, .int .i64 0, .int .i64 0] 47)
      simpa using this
    have hL0 := hidS (((Below.refl w.heap.size w).alloc (Nat.le_refl _) (.cells #[.slice (some ⟨bS, oS, none⟩) s.slots.length cS, .slice (some ⟨bH, oH, none⟩) s.heads.length cH] 26)).alloc (by simp) (.cells #[.slice none 0 0, .slice none 0 0, .int .i64 0, .int .i64 0] 47))
    go_enter Try.func20, Try.ntmps20
    go_wp2_with fail
    refine (HS.out _ hL0.out).mono ?_
    rintro _ w1 ⟨rfl, hb1⟩
    have hGA1 := hidS (blk_later hGA0.out hb1)
    have hGR1 := hidS (blk_later hGR0.out hb1)
    have hL1 := hidS (hL0.out.trans (hb1.mono hL0.out.size))
    clear hb1 hL0 hGA0 hGR0
    have cA0 := blk_cell hGA1.out 0
    have cA1 := blk_cell hGA1.out 1
    simp at cA0 cA1
    go_wp2_with fail
    refine (HI.out _).mono ?_
    rintro _ w2 ⟨rfl, hb2⟩
    clear cA0 cA1
    have hGA2 := hidS (blk_later hGA1.out hb2)
    have hGR2 := hidS (blk_later hGR1.out hb2)
    have hL2 := hidS (hL1.out.trans (hb2.mono hL1.out.size))
    clear hb2 hL1 hGA1 hGR1
    have cA0 := blk_cell hGA2.out 0
    have cA1 := blk_cell hGA2.out 1
    simp at cA0 cA1
    obtain ⟨lS, c0, c1, c2, c3⟩ := HSL.out _ hL2.out
    go_wp2_with fail
    refine (HFR.out _).mono ?_
    rintro _ w3 ⟨rfl, hb3⟩
    clear cA0 cA1 c0 c1 c2 c3
    have hGA3 := hidS (blk_later hGA2.out hb3)
    have hGR3 := hidS (blk_later hGR2.out hb3)
    have hL3 := hidS (hL2.out.trans (hb3.mono hL2.out.size))
    clear hb3 hL2 hGA2 hGR2
    have cA0 := blk_cell hGA3.out 0
    have cA1 := blk_cell hGA3.out 1
    simp at cA0 cA1
    obtain ⟨lS, c0, c1, c2, c3⟩ := HSL.out _ hL3.out
    go_wp2_with fail
    refine (HLK.out _ hL3.out).mono ?_
    rintro _ w4 ⟨rfl, hb4⟩
    clear cA0 cA1 c0 c1 c2 c3
    have hGA4 := hidS (blk_later hGA3.out hb4)
    have hGR4 := hidS (blk_later hGR3.out hb4)
    have hL4 := hidS (hL3.out.trans (hb4.mono hL3.out.size))
    clear hb4 hL3 hGA3 hGR3
    have cA0 := blk_cell hGA4.out 0
    have cA1 := blk_cell hGA4.out 1
    simp at cA0 cA1
    go_wp2_with fail
    refine (HMO.out _ hL4.out).mono ?_
    rintro _ w5 ⟨aS2, cS2, aH2, cH2, rfl, hO, hb5⟩
    have lR := blk_lt hGR4.out
    have hGR5 := hidS (blk_later hGR4.out hb5)
    have hL5 := hidS (hL4.out.trans (hb5.mono hL4.out.size))
    have HO := hidS hO
    clear hb5 hO cA0 cA1 hGA4 hL4 hGR4
    have kR := blk_cell hGR5.out
    have fR := blk_free hGR5.out
    go_wp2_with fail
    refine bodyPost_ret (v := .agg #[.slice aS2 t.slots.length cS2, .slice aH2 t.heads.length cH2, .int .i64 (C : Int), .int .i64 0]) (by simp [results, Try.results20, go_sem, *]) rfl ?_
    refine ⟨aS2, cS2, aH2, cH2, rfl, ?_, ?_⟩
    · refine SlabO.low (lo := w.heap.size + 2) ?_ (by omega)
      repeat (refine SlabO.other ?_ (by omega))
      exact HO.out.low (by omega)
    · repeat (refine below_at ?_ (by omega))
      exact hL5.out
  · have hfb : (x.refs == 1) = false := beq_eq_false_iff_ne.2 hone
    clear hr hR ILL EB EC ES EA hi hz EAT hx hx0 hx1 hf hone
    have hGA0 : Hid (((w.alloc (.cells #[.slice (some ⟨bS, oS, none⟩) s.slots.length cS, .slice (some ⟨bH, oH, none⟩) s.heads.length cH] 26)).alloc (.cells #[.slice none 0 0, .slice none 0 0, .int .i64 0, .int .i64 0] 47)).heap[w.heap.size]? = some (.cells #[.slice (some ⟨bS, oS, none⟩) s.slots.length cS, .slice (some ⟨bH, oH, none⟩) s.heads.length cH] 26)) := by
      show _ = _
      have := blk_alloc (heap_newG w (.cells #[.slice (some ⟨bS, oS, none⟩) s.slots.length cS, .slice (some ⟨bH, oH, none⟩) s.heads.length cH] 26)) (.cells #[.slice none 0 0, .slice none 0 0, .int .i64 0, .int .i64 0] 47)
      simpa using this
    have hGR0 : Hid (((w.alloc (.cells #[.slice (some ⟨bS, oS, none⟩) s.slots.length cS, .slice (some ⟨bH, oH, none⟩) s.heads.length cH] 26)).alloc (.cells #[.slice none 0 0, .slice none 0 0, .int .i64 0, .int .i64 0] 47)).heap[w.heap.size + 1]? = some (.cells #[.slice none 0 0, .slice none 0 0, .int .i64 0, .int .i64 0] 47)) := by
      show _ = _
      have := heap_newG (w.alloc (.cells #[.slice (some ⟨bS, oS, none⟩) s.slots.length cS, .slice (some ⟨bH, oH, none⟩) s.heads.length cH] 26)) (.cells #[.slice none 0 0, .slice none 0 0, .int .i64 0, .int .i64 0] 47)
      simpa using this
    have hL0 := hidS (((Below.refl w.heap.size w).alloc (Nat.le_refl _) (.cells #[.slice (some ⟨bS, oS, none⟩) s.slots.length cS, .slice (some ⟨bH, oH, none⟩) s.heads.length cH] 26)).alloc (by simp) (.cells #[.slice none 0 0, .slice none 0 0, .int .i64 0, .int .i64 0] 47))
    go_enter Try.func20, Try.ntmps20
    go_wp2_with fail
    refine (HS.out _ hL0.out).mono ?_
    rintro _ w1 ⟨rfl, hb1⟩
    have hGA1 := hidS (blk_later hGA0.out hb1)
    have hGR1 := hidS (blk_later hGR0.out hb1)
    have hL1 := hidS (hL0.out.trans (hb1.mono hL0.out.size))
    clear hb1 hL0 hGA0 hGR0
    have cA0 := blk_cell hGA1.out 0
    have cA1 := blk_cell hGA1.out 1
    simp at cA0 cA1
    go_wp2_with fail
    refine (HI.out _).mono ?_
    rintro _ w2 ⟨rfl, hb2⟩
    clear cA0 cA1
    have hGA2 := hidS (blk_later hGA1.out hb2)
    have hGR2 := hidS (blk_later hGR1.out hb2)
    have hL2 := hidS (hL1.out.trans (hb2.mono hL1.out.size))
    clear hb2 hL1 hGA1 hGR1
    have cA0 := blk_cell hGA2.out 0
    have cA1 := blk_cell hGA2.out 1
    simp at cA0 cA1
    obtain ⟨lS, c0, c1, c2, c3⟩ := HSL.out _ hL2.out
    go_wp2_with fail
    refine (HFR.out _).mono ?_
    rintro _ w3 ⟨rfl, hb3⟩
    clear cA0 cA1 c0 c1 c2 c3
    have hGA3 := hidS (blk_later hGA2.out hb3)
    have hGR3 := hidS (blk_later hGR2.out hb3)
    have hL3 := hidS (hL2.out.trans (hb3.mono hL2.out.size))
    clear hb3 hL2 hGA2 hGR2
    have cA0 := blk_cell hGA3.out 0
    have cA1 := blk_cell hGA3.out 1
    simp at cA0 cA1
    obtain ⟨lS, c0, c1, c2, c3⟩ := HSL.out _ hL3.out
    go_wp2_with fail
    refine (HMO.out _ hL3.out).mono ?_
    rintro _ w4 ⟨aS2, cS2, aH2, cH2, rfl, hO, hb4⟩
    have lR := blk_lt hGR3.out
    have hGR4 := hidS (blk_later hGR3.out hb4)
    have hL4 := hidS (hL3.out.trans (hb4.mono hL3.out.size))
    have HO := hidS hO
    clear hb4 hO cA0 cA1 hGA3 hL3 hGR3
    have kR := blk_cell hGR4.out
    have fR := blk_free hGR4.out
    go_wp2_with fail
    refine bodyPost_ret (v := .agg #[.slice aS2 t.slots.length cS2, .slice aH2 t.heads.length cH2, .int .i64 (C : Int), .int .i64 0]) (by simp [results, Try.results20, go_sem, *]) rfl ?_
    refine ⟨aS2, cS2, aH2, cH2, rfl, ?_, ?_⟩
    · refine SlabO.low (lo := w.heap.size + 2) ?_ (by omega)
      repeat (refine SlabO.other ?_ (by omega))
      exact HO.out.low (by omega)
    · repeat (refine below_at ?_ (by omega))
      exact hL4.out
end Go.Proofs.Ytfjgofmjhccdkaa
