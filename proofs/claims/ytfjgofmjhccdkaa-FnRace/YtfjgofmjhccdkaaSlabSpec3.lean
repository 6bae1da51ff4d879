/- Proved here: spec.l06Slots answers whether a slab's numbers are in their bounds; all old memory stays (conditions: the slab's rows can be read; at most 2^20 numbers). -/
import Derived.Test.YtfjgofmjhccdkaaAll2
namespace Go.Proofs.Ytfjgofmjhccdkaa
open Go.ChangeShapes Go.WideShapes Go.ChangeAt Go.RowKit
set_option linter.unusedVariables false
set_option linter.unusedSimpArgs false
set_option maxRecDepth 100000

def okS (nS nH : Nat) (x : Slt) : Bool := keyB x.key && timeB x.gen && timeB x.refs && nextB nS nH x.next
def sizesB (s : Slb) : Bool := (decide (1 ≤ s.slots.length) && decide (s.slots.length ≤ 24)) && (decide (1 ≤ s.heads.length) && decide (s.heads.length ≤ 4))
/-- are all numbers in their bounds? -/
def slotsB (s : Slb) : Bool := sizesB s && (s.slots.all (okS s.slots.length s.heads.length) && s.heads.all (nextB s.slots.length s.heads.length))
theorem slotsB_no1 {s : Slb} (h : sizesB s = false) : slotsB s = false := by unfold slotsB; rw [h]; rfl
theorem slotsB_no2 {s : Slb} {k : Nat} (hk : k < s.slots.length) (h : okS s.slots.length s.heads.length (s.slots.getD k zeroSlt) = false) : slotsB s = false := by
  have : s.slots.all (okS s.slots.length s.heads.length) = false := by
    rw [Bool.eq_false_iff]
    intro h1
    have := List.all_eq_true.1 h1 (s.slots.getD k zeroSlt) (by rw [List.getD_eq_getElem?_getD, List.getElem?_eq_getElem hk]; exact List.getElem_mem _)
    rw [h] at this; cases this
  unfold slotsB; rw [this]; cases sizesB s <;> rfl
theorem slotsB_no3 {s : Slb} {k : Nat} (hk : k < s.heads.length) (h : nextB s.slots.length s.heads.length (s.heads.getD k 0) = false) : slotsB s = false := by
  have : s.heads.all (nextB s.slots.length s.heads.length) = false := by
    rw [Bool.eq_false_iff]
    intro h1
    have := List.all_eq_true.1 h1 (s.heads.getD k 0) (by rw [List.getD_eq_getElem?_getD, List.getElem?_eq_getElem hk]; exact List.getElem_mem _)
    rw [h] at this; cases this
  unfold slotsB; rw [this]; cases sizesB s <;> cases s.slots.all (okS s.slots.length s.heads.length) <;> rfl
theorem slotsB_yes {s : Slb} (h0 : sizesB s = true) (h1 : ∀ k, k < s.slots.length → okS s.slots.length s.heads.length (s.slots.getD k zeroSlt) = true) (h2 : ∀ k, k < s.heads.length → nextB s.slots.length s.heads.length (s.heads.getD k 0) = true) : slotsB s = true := by
  have e1 : s.slots.all (okS s.slots.length s.heads.length) = true := List.all_eq_true.2 fun x hx => by
    obtain ⟨i, hi, e⟩ := List.getElem_of_mem hx
    have := h1 i hi
    rw [List.getD_eq_getElem?_getD, List.getElem?_eq_getElem hi] at this
    rw [← e]; exact this
  have e2 : s.heads.all (nextB s.slots.length s.heads.length) = true := List.all_eq_true.2 fun x hx => by
    obtain ⟨i, hi, e⟩ := List.getElem_of_mem hx
    have := h2 i hi
    rw [List.getD_eq_getElem?_getD, List.getElem?_eq_getElem hi] at this
    rw [← e]; exact this
  unfold slotsB; rw [h0, e1, e2]; rfl
theorem slotsB_leads {s : Slb} (h : slotsB s = true) : Leads s ∧ 1 ≤ s.slots.length ∧ s.slots.length ≤ 24 ∧ 1 ≤ s.heads.length ∧ s.heads.length ≤ 4 := by
  unfold slotsB sizesB at h
  simp only [Bool.and_eq_true, decide_eq_true_eq, List.all_eq_true] at h
  obtain ⟨⟨⟨h1, h2⟩, h3, h4⟩, h5, h6⟩ := h
  refine ⟨⟨fun i hi => ?_, fun i hi => ?_⟩, h1, h2, h3, h4⟩
  · have := h5 (s.slots.getD i zeroSlt) (by rw [List.getD_eq_getElem?_getD, List.getElem?_eq_getElem hi]; exact List.getElem_mem _)
    unfold okS nextB endB at this
    simp only [Bool.and_eq_true, Bool.or_eq_true, decide_eq_true_eq] at this
    omega
  · have := h6 (s.heads.getD i 0) (by rw [List.getD_eq_getElem?_getD, List.getElem?_eq_getElem hi]; exact List.getElem_mem _)
    unfold nextB endB at this
    simp only [Bool.and_eq_true, Bool.or_eq_true, decide_eq_true_eq] at this
    omega
set_option maxHeartbeats 4000000 in
theorem l06Slots_any (aS aH : Option Addr) (cS cH : Nat) (s : Slb) (w : World) (hR : SlabZ aS aH s w) (h1 : s.slots.length ≤ 1048576) (h2 : s.heads.length ≤ 1048576) :
    Calls Try.prog 111 #[.agg #[.slice aS s.slots.length cS, .slice aH s.heads.length cH]] w fun e w' => e = .returned (.bool (slotsB s)) ∧ Below w.heap.size w w' := by
  have HR := hidS hR
  clear hR
  have hA0 := hidS (heap_newG w (.cells #[.slice aS s.slots.length cS, .slice aH s.heads.length cH] 26))
  have hb0 := hidS ((Below.refl w.heap.size w).alloc (Nat.le_refl _) (.cells #[.slice aS s.slots.length cS, .slice aH s.heads.length cH] 26))
  have HI1 := hidS (fun W => l02Is_any (s.slots.length : Int) 1 24 W)
  have HI2 := hidS (fun W => l02Is_any (s.heads.length : Int) 1 4 W)
  by_cases hs1 : ¬ (1 ≤ s.slots.length ∧ s.slots.length ≤ 24)
  · have e : (decide ((1 : Int) ≤ (s.slots.length : Int)) && decide ((s.slots.length : Int) ≤ 24)) = false := by simp; omega
    rw [e] at HI1
    have EN : Hid (slotsB s = false) := hidS (slotsB_no1 (by unfold sizesB; simp; omega))
    clear e hs1
    go_enter Try.func111, Try.ntmps111
    go_wp2_with fail
    refine (HI1.out _).mono ?_
    rintro e w1 ⟨rfl, rfl⟩
    go_wp2_with fail
    go_ret
    exact ⟨by rw [EN.out]; rfl, hb0.out⟩
  have hs1 := Classical.not_not.1 hs1
  have e : (decide ((1 : Int) ≤ (s.slots.length : Int)) && decide ((s.slots.length : Int) ≤ 24)) = true := by simp; omega
  rw [e] at HI1
  clear e
  by_cases hs2 : ¬ (1 ≤ s.heads.length ∧ s.heads.length ≤ 4)
  · have e : (decide ((1 : Int) ≤ (s.heads.length : Int)) && decide ((s.heads.length : Int) ≤ 4)) = false := by simp; omega
    rw [e] at HI2
    have EN : Hid (slotsB s = false) := hidS (slotsB_no1 (by unfold sizesB; simp; omega))
    clear e hs1 hs2
    go_enter Try.func111, Try.ntmps111
    go_wp2_with fail
    refine (HI1.out _).mono ?_
    rintro e w1 ⟨rfl, rfl⟩
    go_wp2_with fail
    refine (HI2.out _).mono ?_
    rintro e w1 ⟨rfl, rfl⟩
    go_wp2_with fail
    go_ret
    exact ⟨by rw [EN.out]; rfl, hb0.out⟩
  have hs2 := Classical.not_not.1 hs2
  have e : (decide ((1 : Int) ≤ (s.heads.length : Int)) && decide ((s.heads.length : Int) ≤ 4)) = true := by simp; omega
  rw [e] at HI2
  have ES : Hid (sizesB s = true) := by show _ = _; unfold sizesB; simp; omega
  clear e hs1 hs2
  go_enter Try.func111, Try.ntmps111
  go_wp2_with fail
  refine (HI1.out _).mono ?_
  rintro e w1 ⟨rfl, hw1⟩
  rw [hw1]
  clear hw1 w1
  go_wp2_with fail
  refine (HI2.out _).mono ?_
  rintro e w1 ⟨rfl, hw1⟩
  rw [hw1]
  clear hw1 w1 HI1 HI2
  go_wp2_with fail
  generalize w.alloc (.cells #[.slice aS s.slots.length cS, .slice aH s.heads.length cH] 26) = w0 at hA0 hb0 ⊢
  go_loopw [3] (fun i wr => ∃ k : Nat, i = .int .i64 (k : Int) ∧ k ≤ s.slots.length ∧ (∀ j, j < k → okS s.slots.length s.heads.length (s.slots.getD j zeroSlt) = true) ∧ wr.heap[w.heap.size]? = some (.cells #[.slice aS s.slots.length cS, .slice aH s.heads.length cH] 26) ∧ Below w.heap.size w wr) (fun i _ => (s.slots.length - (intOf i).toNat))
  case atStart => exact ⟨0, rfl, Nat.zero_le _, fun j hj => by omega, hA0.out, hb0.out⟩
  case round =>
    obtain ⟨k, rfl, hk, hok, hA, hb⟩ := hrel
    have a0 := blk_cell hA 0
    have a1 := blk_cell hA 1
    simp at a0 a1
    have HA := hidS hA
    have HB := hidS hb
    have HOK := hidS hok
    have lA := blk_lt hA
    clear hA hb hok
    by_cases hlt : k < s.slots.length
    · have hlt' : (0 : Int) ≤ (k : Int) ∧ (k : Int) < (s.slots.length : Int) := by omega
      obtain ⟨bS, oS, eS, lS, c0, c1, c2, c3⟩ := (HR.out.slots.later HB.out).slot hlt
      rw [eS] at a0
      obtain ⟨x, hx⟩ : ∃ x, s.slots.getD k zeroSlt = x := ⟨_, rfl⟩
      have EX := hidS hx
      rw [hx] at c0 c1 c2 c3
      have ES1 := hidS eS
      clear hx eS
      have hX2 := hidS (heap_newG wr (.cells #[.int .i64 x.key, .int .i64 x.gen, .int .i64 x.refs, .int .i64 x.next] 45))
      have hA2 := hidS (blk_alloc HA.out (.cells #[.int .i64 x.key, .int .i64 x.gen, .int .i64 x.refs, .int .i64 x.next] 45))
      have hB2 := hidS (HB.out.alloc (by omega) (.cells #[.int .i64 x.key, .int .i64 x.gen, .int .i64 x.refs, .int .i64 x.next] 45))
      go_upto_region 7 with fail
      generalize wr.alloc (.cells #[.int .i64 x.key, .int .i64 x.gen, .int .i64 x.refs, .int .i64 x.next] 45) = w2 at hX2 hA2 hB2 ⊢
      generalize wr.heap.size = g at *
      clear a0 a1 c0 c1 c2 c3 HA HB
      have x0 := blk_cell hX2.out 0
      have x1 := blk_cell hX2.out 1
      have x2 := blk_cell hX2.out 2
      have x3 := blk_cell hX2.out 3
      have y0 := blk_cell hA2.out 0
      have y1 := blk_cell hA2.out 1
      simp at x0 x1 x2 x3 y0 y1
      have HK := hidS (fun W => l06Key_any x.key W)
      have HG := hidS (fun W => l02Time_any x.gen W)
      have HF := hidS (fun W => l02Time_any x.refs W)
      have HN := hidS (fun W => l06Next_any aS aH s.slots.length cS s.heads.length cH x.next W h1 h2)
      have EB : Hid (okS s.slots.length s.heads.length (s.slots.getD k zeroSlt) = (keyB x.key && timeB x.gen && timeB x.refs && nextB s.slots.length s.heads.length x.next)) := by show _ = _; rw [EX.out]; rfl
      generalize keyB x.key = q1 at HK EB
      generalize timeB x.gen = q2 at HG EB
      generalize timeB x.refs = q3 at HF EB
      generalize nextB s.slots.length s.heads.length x.next = q4 at HN EB
      cases q1
      · go_wp2_with fail
        refine (HK.out _).mono ?_
        rintro e w9 ⟨rfl, hw9⟩
        rw [hw9]
        clear hw9 w9
        have EN : Hid (slotsB s = false) := hidS (slotsB_no2 hlt (by rw [EB.out]; simp))
        go_wp2_with fail
        go_ret
        exact ⟨by rw [EN.out]; rfl, hB2.out⟩
      cases q2
      · go_wp2_with fail
        refine (HK.out _).mono ?_
        rintro e w9 ⟨rfl, hw9⟩
        rw [hw9]
        clear hw9 w9
        go_wp2_with fail
        refine (HG.out _).mono ?_
        rintro e w9 ⟨rfl, hw9⟩
        rw [hw9]
        clear hw9 w9
        have EN : Hid (slotsB s = false) := hidS (slotsB_no2 hlt (by rw [EB.out]; simp))
        go_wp2_with fail
        go_ret
        exact ⟨by rw [EN.out]; rfl, hB2.out⟩
      cases q3
      · go_wp2_with fail
        refine (HK.out _).mono ?_
        rintro e w9 ⟨rfl, hw9⟩
        rw [hw9]
        clear hw9 w9
        go_wp2_with fail
        refine (HG.out _).mono ?_
        rintro e w9 ⟨rfl, hw9⟩
        rw [hw9]
        clear hw9 w9
        go_wp2_with fail
        refine (HF.out _).mono ?_
        rintro e w9 ⟨rfl, hw9⟩
        rw [hw9]
        clear hw9 w9
        have EN : Hid (slotsB s = false) := hidS (slotsB_no2 hlt (by rw [EB.out]; simp))
        go_wp2_with fail
        go_ret
        exact ⟨by rw [EN.out]; rfl, hB2.out⟩
      cases q4
      · go_wp2_with fail
        refine (HK.out _).mono ?_
        rintro e w9 ⟨rfl, hw9⟩
        rw [hw9]
        clear hw9 w9
        go_wp2_with fail
        refine (HG.out _).mono ?_
        rintro e w9 ⟨rfl, hw9⟩
        rw [hw9]
        clear hw9 w9
        go_wp2_with fail
        refine (HF.out _).mono ?_
        rintro e w9 ⟨rfl, hw9⟩
        rw [hw9]
        clear hw9 w9
        go_wp2_with fail
        refine (HN.out _).mono ?_
        rintro e w3 ⟨rfl, hb3⟩
        have hB3 := hidS (hB2.out.trans (hb3.mono hB2.out.size))
        have hA3 := hidS (blk_later hA2.out hb3)
        clear hb3 hB2 hA2 hX2 x0 x1 x2 x3 y0 y1
        have EN : Hid (slotsB s = false) := hidS (slotsB_no2 hlt (by rw [EB.out]; simp))
        go_wp2_with fail
        go_ret
        exact ⟨by rw [EN.out]; rfl, hB3.out⟩
      · go_wp2_with fail
        refine (HK.out _).mono ?_
        rintro e w9 ⟨rfl, hw9⟩
        rw [hw9]
        clear hw9 w9
        go_wp2_with fail
        refine (HG.out _).mono ?_
        rintro e w9 ⟨rfl, hw9⟩
        rw [hw9]
        clear hw9 w9
        go_wp2_with fail
        refine (HF.out _).mono ?_
        rintro e w9 ⟨rfl, hw9⟩
        rw [hw9]
        clear hw9 w9
        go_wp2_with fail
        refine (HN.out _).mono ?_
        rintro e w3 ⟨rfl, hb3⟩
        have hB3 := hidS (hB2.out.trans (hb3.mono hB2.out.size))
        have hA3 := hidS (blk_later hA2.out hb3)
        clear hb3 hB2 hA2 hX2 x0 x1 x2 x3 y0 y1
        go_wp2_with fail
        go_roundw
        case rel =>
          refine ⟨k + 1, by simp, by omega, fun j hj => ?_, hA3.out, hB3.out⟩
          by_cases e : j < k
          · exact HOK.out j e
          · have : j = k := by omega
            subst this
            rw [EB.out]; rfl
        case measure => simp [intOf]; omega
    · have hge : ¬ (k : Int) < (s.slots.length : Int) := by omega
      have HALL : Hid (∀ j, j < s.slots.length → okS s.slots.length s.heads.length (s.slots.getD j zeroSlt) = true) := hidS (fun j hj => HOK.out j (by omega))
      clear HOK hk hlt
      go_wp2_with fail
      clear a0 a1
      go_loopw [5] (fun i wr => ∃ k : Nat, i = .int .i64 (k : Int) ∧ k ≤ s.heads.length ∧ (∀ j, j < k → nextB s.slots.length s.heads.length (s.heads.getD j 0) = true) ∧ wr.heap[w.heap.size]? = some (.cells #[.slice aS s.slots.length cS, .slice aH s.heads.length cH] 26) ∧ Below w.heap.size w wr) (fun i _ => (s.heads.length - (intOf i).toNat))
      case atStart => exact ⟨0, rfl, Nat.zero_le _, fun j hj => by omega, HA.out, HB.out⟩
      case round =>
        obtain ⟨m, rfl, hm, hok, hA, hb⟩ := hrel
        have HOK := hidS hok
        have HB9 := hidS hb
        clear HA HB hok
        by_cases hlt : m < s.heads.length
        · have hj : (0 : Int) ≤ (m : Int) ∧ (m : Int) < (s.heads.length : Int) := by omega
          obtain ⟨bH, oH, eH, lH, cd⟩ := (HR.out.heads.later hb) m hlt
          have HN := hidS (fun W => l06Next_any aS aH s.slots.length cS s.heads.length cH (s.heads.getD m 0) W h1 h2)
          have EB : Hid (nextB s.slots.length s.heads.length (s.heads.getD m 0) = nextB s.slots.length s.heads.length (s.heads.getD m 0)) := hidS rfl
          obtain ⟨x, hx⟩ : ∃ x, s.heads.getD m 0 = x := ⟨_, rfl⟩
          have EX := hidS hx
          rw [hx] at cd HN
          have EB : Hid (nextB s.slots.length s.heads.length (s.heads.getD m 0) = nextB s.slots.length s.heads.length x) := by show _ = _; rw [hx]
          generalize nextB s.slots.length s.heads.length x = q at HN EB
          have HA9 := hidS hA
          have a0 := blk_cell hA 1
          simp at a0
          have HE := hidS eH
          clear hA hb hx eH
          go_wp2_with fail
          clear a0
          cases q
          · refine grow_guarded 8 [.is (.agg #[.slice aS s.slots.length cS, .slice aH s.heads.length cH]), .is (.pointer (some ⟨w.heap.size, 1, none⟩)), .is (.slice aH s.heads.length cH), .is (.int .i64 (m : Int)), .is (.pointer (some ⟨bH, oH + m, none⟩)), .is (.int .i64 x), .is (.bool false), .is (.bool true)] rfl (by kernel_rfl) (by kernel_rfl) ?steps12f ?fin12f
            case steps12f =>
              refine ⟨?_, ?_, ?_, ?_, ?_, ?_, ?_, ?_, trivial⟩
              · refine stepW_of_u ⟨rfl, fun v W ρ hC kc kf ks ki kd => ?_⟩
                have t1 : ρ (.tmp 1) = .pointer (some ⟨w.heap.size, 0, none⟩) := ki 1 (by decide)
                have hg := blk_later HA9.out hC
                have c0 := blk_cell hg 0
                have c1 := blk_cell hg 1
                simp at c0 c1
                simp [execOp, go_sem, kc, t1, c0, c1]
                exact ⟨hC, Below.refl _ _, rfl⟩
              · refine stepW_of_u ⟨rfl, fun v W ρ hC kc kf ks ki kd => ?_⟩
                have t1 : ρ (.tmp 1) = .pointer (some ⟨w.heap.size, 0, none⟩) := ki 1 (by decide)
                simp [execOp, go_sem, kc, t1]
                exact ⟨hC, Below.refl _ _, rfl⟩
              · refine stepW_of_u ⟨rfl, fun v W ρ hC kc kf ks ki kd => ?_⟩
                have d1 : v 1 = .pointer (some ⟨w.heap.size, 1, none⟩) := (kdj kd 1 rfl :)
                have t61 : ρ (.tmp 61) = .pointer (some ⟨w.heap.size, 1, none⟩) := (ks 1 61 (by decide) rfl).trans d1
                have hg := blk_later HA9.out hC
                have c1 := blk_cell hg 1
                simp at c1
                simp [execOp, go_sem, kc, t61, c1]
                exact ⟨hC, Below.refl _ _, rfl⟩
              · refine stepW_of_u ⟨rfl, fun v W ρ hC kc kf ks ki kd => ?_⟩
                have t5 : ρ (.tmp 5) = .int .i64 (m : Int) := ki 5 (by decide)
                simp [execOp, go_sem, kc, t5]
                exact ⟨hC, Below.refl _ _, rfl⟩
              · refine stepW_of_u ⟨rfl, fun v W ρ hC kc kf ks ki kd => ?_⟩
                have d2 : v 2 = .slice aH s.heads.length cH := (kdj kd 2 rfl :)
                have t62 : ρ (.tmp 62) = .slice aH s.heads.length cH := (ks 2 62 (by decide) rfl).trans d2
                have d3 : v 3 = .int .i64 (m : Int) := (kdj kd 3 rfl :)
                have t63 : ρ (.tmp 63) = .int .i64 (m : Int) := (ks 3 63 (by decide) rfl).trans d3
                simp [execOp, go_sem, kc, t62, t63, hj, HE.out]
                exact ⟨hC, Below.refl _ _, rfl⟩
              · refine stepW_of_u ⟨rfl, fun v W ρ hC kc kf ks ki kd => ?_⟩
                have d4 : v 4 = .pointer (some ⟨bH, oH + m, none⟩) := (kdj kd 4 rfl :)
                have t64 : ρ (.tmp 64) = .pointer (some ⟨bH, oH + m, none⟩) := (ks 4 64 (by decide) rfl).trans d4
                have e0 := (hC.cell (p := ⟨bH, oH + m, none⟩) lH).trans cd
                simp [execOp, go_sem, kc, t64, e0]
                exact ⟨hC, Below.refl _ _, rfl⟩
              · refine stepW_of_u ⟨rfl, fun v W ρ hC kc kf ks ki kd => ?_⟩
                have d0 : v 0 = .agg #[.slice aS s.slots.length cS, .slice aH s.heads.length cH] := (kdj kd 0 rfl :)
                have t60 : ρ (.tmp 60) = .agg #[.slice aS s.slots.length cS, .slice aH s.heads.length cH] := (ks 0 60 (by decide) rfl).trans d0
                have d5 : v 5 = .int .i64 x := (kdj kd 5 rfl :)
                have t65 : ρ (.tmp 65) = .int .i64 x := (ks 5 65 (by decide) rfl).trans d5
                simp [execOp, go_sem, t60, t65, kf]
                exact Calls.mono (HN.out W) (fun e x h => ⟨_, h.1, hC.trans (h.2.mono hC.size), h.2, rfl⟩)
              · refine stepW_of_u ⟨rfl, fun v W ρ hC kc kf ks ki kd => ?_⟩
                have d6 : v 6 = .bool false := (kdj kd 6 rfl :)
                have t66 : ρ (.tmp 66) = .bool false := (ks 6 66 (by decide) rfl).trans d6
                simp [execOp, go_sem, kc, t66]
                exact ⟨hC, Below.refl _ _, rfl⟩
            intro v12f W12f hb12f hall
            have hv12f : v12f 7 = .bool true := hall 7 (by decide)
            simp [upto, Act.put]
            rw [hv12f]
            clear hall hv12f
            have EN : Hid (slotsB s = false) := hidS (slotsB_no3 hlt EB.out)
            have hB7 := hidS (HB9.out.trans (hb12f.mono HB9.out.size))
            clear hb12f HB9
            go_wp2_with fail
            go_ret
            exact ⟨by rw [EN.out]; rfl, hB7.out⟩
          · refine grow_guarded 8 [.is (.agg #[.slice aS s.slots.length cS, .slice aH s.heads.length cH]), .is (.pointer (some ⟨w.heap.size, 1, none⟩)), .is (.slice aH s.heads.length cH), .is (.int .i64 (m : Int)), .is (.pointer (some ⟨bH, oH + m, none⟩)), .is (.int .i64 x), .is (.bool true), .is (.bool false)] rfl (by kernel_rfl) (by kernel_rfl) ?steps12t ?fin12t
            case steps12t =>
              refine ⟨?_, ?_, ?_, ?_, ?_, ?_, ?_, ?_, trivial⟩
              · refine stepW_of_u ⟨rfl, fun v W ρ hC kc kf ks ki kd => ?_⟩
                have t1 : ρ (.tmp 1) = .pointer (some ⟨w.heap.size, 0, none⟩) := ki 1 (by decide)
                have hg := blk_later HA9.out hC
                have c0 := blk_cell hg 0
                have c1 := blk_cell hg 1
                simp at c0 c1
                simp [execOp, go_sem, kc, t1, c0, c1]
                exact ⟨hC, Below.refl _ _, rfl⟩
              · refine stepW_of_u ⟨rfl, fun v W ρ hC kc kf ks ki kd => ?_⟩
                have t1 : ρ (.tmp 1) = .pointer (some ⟨w.heap.size, 0, none⟩) := ki 1 (by decide)
                simp [execOp, go_sem, kc, t1]
                exact ⟨hC, Below.refl _ _, rfl⟩
              · refine stepW_of_u ⟨rfl, fun v W ρ hC kc kf ks ki kd => ?_⟩
                have d1 : v 1 = .pointer (some ⟨w.heap.size, 1, none⟩) := (kdj kd 1 rfl :)
                have t61 : ρ (.tmp 61) = .pointer (some ⟨w.heap.size, 1, none⟩) := (ks 1 61 (by decide) rfl).trans d1
                have hg := blk_later HA9.out hC
                have c1 := blk_cell hg 1
                simp at c1
                simp [execOp, go_sem, kc, t61, c1]
                exact ⟨hC, Below.refl _ _, rfl⟩
              · refine stepW_of_u ⟨rfl, fun v W ρ hC kc kf ks ki kd => ?_⟩
                have t5 : ρ (.tmp 5) = .int .i64 (m : Int) := ki 5 (by decide)
                simp [execOp, go_sem, kc, t5]
                exact ⟨hC, Below.refl _ _, rfl⟩
              · refine stepW_of_u ⟨rfl, fun v W ρ hC kc kf ks ki kd => ?_⟩
                have d2 : v 2 = .slice aH s.heads.length cH := (kdj kd 2 rfl :)
                have t62 : ρ (.tmp 62) = .slice aH s.heads.length cH := (ks 2 62 (by decide) rfl).trans d2
                have d3 : v 3 = .int .i64 (m : Int) := (kdj kd 3 rfl :)
                have t63 : ρ (.tmp 63) = .int .i64 (m : Int) := (ks 3 63 (by decide) rfl).trans d3
                simp [execOp, go_sem, kc, t62, t63, hj, HE.out]
                exact ⟨hC, Below.refl _ _, rfl⟩
              · refine stepW_of_u ⟨rfl, fun v W ρ hC kc kf ks ki kd => ?_⟩
                have d4 : v 4 = .pointer (some ⟨bH, oH + m, none⟩) := (kdj kd 4 rfl :)
                have t64 : ρ (.tmp 64) = .pointer (some ⟨bH, oH + m, none⟩) := (ks 4 64 (by decide) rfl).trans d4
                have e0 := (hC.cell (p := ⟨bH, oH + m, none⟩) lH).trans cd
                simp [execOp, go_sem, kc, t64, e0]
                exact ⟨hC, Below.refl _ _, rfl⟩
              · refine stepW_of_u ⟨rfl, fun v W ρ hC kc kf ks ki kd => ?_⟩
                have d0 : v 0 = .agg #[.slice aS s.slots.length cS, .slice aH s.heads.length cH] := (kdj kd 0 rfl :)
                have t60 : ρ (.tmp 60) = .agg #[.slice aS s.slots.length cS, .slice aH s.heads.length cH] := (ks 0 60 (by decide) rfl).trans d0
                have d5 : v 5 = .int .i64 x := (kdj kd 5 rfl :)
                have t65 : ρ (.tmp 65) = .int .i64 x := (ks 5 65 (by decide) rfl).trans d5
                simp [execOp, go_sem, t60, t65, kf]
                exact Calls.mono (HN.out W) (fun e x h => ⟨_, h.1, hC.trans (h.2.mono hC.size), h.2, rfl⟩)
              · refine stepW_of_u ⟨rfl, fun v W ρ hC kc kf ks ki kd => ?_⟩
                have d6 : v 6 = .bool true := (kdj kd 6 rfl :)
                have t66 : ρ (.tmp 66) = .bool true := (ks 6 66 (by decide) rfl).trans d6
                simp [execOp, go_sem, kc, t66]
                exact ⟨hC, Below.refl _ _, rfl⟩
            intro v12t W12t hb12t hall
            have hv12t : v12t 7 = .bool false := hall 7 (by decide)
            simp [upto, Act.put]
            rw [hv12t]
            clear hall hv12t
            have hB7 := hidS (HB9.out.trans (hb12t.mono HB9.out.size))
            have hA7 := hidS (blk_later HA9.out hb12t)
            clear hb12t HB9 HA9
            go_wp2_with fail
            go_roundw
            case rel =>
              refine ⟨m + 1, by simp, by omega, fun j hj => ?_, hA7.out, hB7.out⟩
              by_cases e : j < m
              · exact HOK.out j e
              · have : j = m := by omega
                subst this
                exact EB.out
            case measure => simp [intOf]; omega
        · have hge : ¬ (m : Int) < (s.heads.length : Int) := by omega
          have EY : Hid (slotsB s = true) := hidS (slotsB_yes ES.out HALL.out (fun j hj => HOK.out j (by omega)))
          have a0 := blk_cell hA 1
          simp at a0
          clear HOK hm hlt hA hb
          go_wp2_with fail
          go_ret
          exact ⟨by rw [EY.out]; rfl, HB9.out⟩
end Go.Proofs.Ytfjgofmjhccdkaa
