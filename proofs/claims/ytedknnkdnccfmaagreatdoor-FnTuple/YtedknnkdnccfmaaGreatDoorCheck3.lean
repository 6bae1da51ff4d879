/- Proved here: spec.l03Check answers the check of what is behind a right packet's head; all old memory stays (condition: its numbers are within their bounds). -/
import Derived.Test.YtedknnkdnccfmaaGreatDoorAll9
import Derived.Test.YtedknnkdnccfmaaGreatDoorAll10
namespace Go.Proofs.YtedknnkdnccfmaaGreatDoor
open Go.ChangeShapes Go.WideShapes Go.ChangeAt Go.RowKit
set_option linter.unusedVariables false
set_option maxRecDepth 100000
set_option linter.unusedSimpArgs false

theorem specCheckOf_b (s : ByteArray) (w : World) (hs : s.size ≤ maxLen) :
    Calls Tryz.prog 106 #[.string s] w fun e w' => e = .returned (.int .i64 (checkAns s)) ∧ Below w.heap.size w w' :=
  (specCheckOf_any s w hs).mono (fun e w' h => ⟨h.1, by rw [h.2]; exact Below.refl _ _⟩)
/-- what is checked of TCP and UDP -/
def pseudoT (p : Pk) (t : ByteArray) : ByteArray := fourT p.src.toNat ++ fourT p.dst.toNat ++ rowT [0, p.proto] ++ twoT t.size ++ t
/-- the check of what is behind the head -/
def checkT (p : Pk) : Int := if p.proto = 1 then checkAns (tailT p 0) else if p.proto = 17 ∧ checkAns (pseudoT p (tailT p 0)) = 0 then 65535 else checkAns (pseudoT p (tailT p 0))
theorem checkAns_word {s : ByteArray} : wordB (checkAns s) = true := by
  have := sumAns_le s
  unfold checkAns
  split
  · rfl
  · exact wordB_iff.2 ⟨by omega, by omega⟩
theorem checkT_word (p : Pk) : wordB (checkT p) = true := by
  unfold checkT
  split
  · exact checkAns_word
  · split
    · rfl
    · exact checkAns_word

set_option maxHeartbeats 4000000 in
theorem l03Check_any (p : Pk) (w : World) (h : Fine p) :
    Calls Tryz.prog 104 #[.agg #[.int .i64 p.src, .int .i64 p.dst, .int .i64 p.proto, .int .i64 p.a, .int .i64 p.b, .int .i64 p.kind, .int .i64 p.flags, .int .i64 p.seq, .int .i64 p.ack, .string p.body]] w fun e w' => e = .returned (.int .i64 (checkT p)) ∧ Below w.heap.size w w' := by
  have hS := h.small 0
  have hs1 := h.src
  have hs2 := h.dst
  have hpr := hidS h.proto
  have hT := hidS (fun W => l03Tail_any p 0 W h (by omega))
  obtain ⟨t, ht⟩ : ∃ t, t = tailT p 0 := ⟨_, rfl⟩
  rw [← ht] at hS hT
  have HT := hidS ht
  clear ht h
  have hwt : wordB (t.size : Int) = true := wordB_iff.2 ⟨by omega, by omega⟩
  have z2 : (rowT [0, p.proto]).size = 2 := rowT_size _
  have z3 := twoT_size t.size
  have z4 := fourT_size p.src.toNat
  have z5 := fourT_size p.dst.toNat
  go_enter Tryz.func104, Tryz.ntmps104
  go_wp2_with fail
  refine (hT.out _).mono ?_
  rintro e w1 ⟨rfl, hb1⟩
  have hP1 := (PkAt.new p w).later hb1
  have hB1 := hidS (((Below.refl w.heap.size w).alloc (Nat.le_refl _) _).trans (hb1.mono (by simp)))
  clear hb1 hT
  have HP := hidS hP1
  obtain ⟨c0, c1, c2, c3, c4, c5, c6, c7, c8, c9⟩ := hP1
  by_cases h1 : p.proto = 1
  · have e : Hid (checkT p = checkAns t) := by rw [HT.out]; exact if_pos h1
    have h1' : (p.proto == 1) = true := beq_iff_eq.2 h1
    clear h1
    go_wp2_with fail
    refine (specCheckOf_b t _ (by unfold maxLen; omega)).mono ?_
    rintro _ w2 ⟨rfl, hb2⟩
    have hE := hidS (hB1.out.trans (hb2.mono hB1.out.size))
    go_wp2
    go_ret
    exact ⟨by rw [e.out]; rfl, hE.out⟩
  have h1' : (p.proto == 1) = false := beq_eq_false_iff_ne.2 h1
  have hpr1 : 0 ≤ p.proto := by rcases hpr.out with q | q | q <;> omega
  have hpr2 : p.proto ≤ 255 := by rcases hpr.out with q | q | q <;> omega
  have hwf : IntKind.u8.wrap p.proto = p.proto := IntWalk.u8_in _ (by omega)
  have H1 := hidS h1
  clear h1
  go_wp2_with fail
  refine grow_kinds 21 [.is (.pointer (some ⟨w.heap.size, 0, none⟩)), .is (.int .i64 p.src), .is (.string (fourT p.src.toNat)), .is (.pointer (some ⟨w.heap.size, 1, none⟩)), .is (.int .i64 p.dst), .is (.string (fourT p.dst.toNat)), .is (.string (fourT p.src.toNat ++ (fourT p.dst.toNat))), .is (.pointer (some ⟨w.heap.size, 2, none⟩)), .is (.int .i64 p.proto), .is (.int .u8 p.proto), .row (rowL [0, p.proto]), .is (.string (rowT [0, p.proto])), .is (.string (fourT p.src.toNat ++ (fourT p.dst.toNat) ++ (rowT [0, p.proto]))), .is (.string t), .is (.int .i64 (t.size : Int)), .is (.string (twoT t.size)), .is (.string (fourT p.src.toNat ++ (fourT p.dst.toNat) ++ (rowT [0, p.proto]) ++ (twoT t.size))), .is (.string t), .is (.string (fourT p.src.toNat ++ (fourT p.dst.toNat) ++ (rowT [0, p.proto]) ++ (twoT t.size) ++ t)), .is (.int .i64 (checkAns (fourT p.src.toNat ++ (fourT p.dst.toNat) ++ (rowT [0, p.proto]) ++ (twoT t.size) ++ t))), .is (.int .i64 (checkAns (fourT p.src.toNat ++ (fourT p.dst.toNat) ++ (rowT [0, p.proto]) ++ (twoT t.size) ++ t)))] rfl (by kernel_rfl) (by kernel_rfl) ?steps ?fin
  case steps =>
    refine ⟨?_, ?_, ?_, ?_, ?_, ?_, ?_, ?_, ?_, ?_, ?_, ?_, ?_, ?_, ?_, ?_, ?_, ?_, ?_, ?_, ?_, trivial⟩
    · refine ⟨rfl, fun v W ρ hC hc hf hs hi hd => ?_⟩
      have t1 : ρ (.tmp 1) = .pointer (some ⟨w.heap.size, 0, none⟩) := hi 1 (by decide)
      simp [execOp, go_sem, t1]
      exact ⟨hC, Below.refl _ _, rfl⟩
    · refine ⟨rfl, fun v W ρ hC hc hf hs hi hd => ?_⟩
      have d0 : v 0 = .pointer (some ⟨w.heap.size, 0, none⟩) := hd _ (Array.mem_of_getElem? (i := 0) rfl) rfl
      have t12 : ρ (.tmp 12) = v 0 := hs 0 12 (by decide) rfl
      rw [d0] at t12
      have hp := HP.out.later hC
      obtain ⟨c0, c1, c2, c3, c4, c5, c6, c7, c8, c9⟩ := hp
      simp [execOp, go_sem, t12, c0]
      exact ⟨hC, Below.refl _ _, rfl⟩
    · refine ⟨rfl, fun v W ρ hC hc hf hs hi hd => ?_⟩
      have d1 : v 1 = .int .i64 p.src := hd _ (Array.mem_of_getElem? (i := 0) rfl) rfl
      have t13 : ρ (.tmp 13) = v 1 := hs 1 13 (by decide) rfl
      rw [d1] at t13
      simp [execOp, go_sem, t13, hf]
      exact Calls.mono (l03Four_x _ _ (by assumption)) (fun e x h => ⟨_, h.1, hC.trans (h.2.mono hC.size), h.2, rfl⟩)
    · refine ⟨rfl, fun v W ρ hC hc hf hs hi hd => ?_⟩
      have t1 : ρ (.tmp 1) = .pointer (some ⟨w.heap.size, 0, none⟩) := hi 1 (by decide)
      simp [execOp, go_sem, t1]
      exact ⟨hC, Below.refl _ _, rfl⟩
    · refine ⟨rfl, fun v W ρ hC hc hf hs hi hd => ?_⟩
      have d3 : v 3 = .pointer (some ⟨w.heap.size, 1, none⟩) := hd _ (Array.mem_of_getElem? (i := 0) rfl) rfl
      have t15 : ρ (.tmp 15) = v 3 := hs 3 15 (by decide) rfl
      rw [d3] at t15
      have hp := HP.out.later hC
      obtain ⟨c0, c1, c2, c3, c4, c5, c6, c7, c8, c9⟩ := hp
      simp [execOp, go_sem, t15, c1]
      exact ⟨hC, Below.refl _ _, rfl⟩
    · refine ⟨rfl, fun v W ρ hC hc hf hs hi hd => ?_⟩
      have d4 : v 4 = .int .i64 p.dst := hd _ (Array.mem_of_getElem? (i := 0) rfl) rfl
      have t16 : ρ (.tmp 16) = v 4 := hs 4 16 (by decide) rfl
      rw [d4] at t16
      simp [execOp, go_sem, t16, hf]
      exact Calls.mono (l03Four_x _ _ (by assumption)) (fun e x h => ⟨_, h.1, hC.trans (h.2.mono hC.size), h.2, rfl⟩)
    · refine ⟨rfl, fun v W ρ hC hc hf hs hi hd => ?_⟩
      have d2 : v 2 = .string (fourT p.src.toNat) := hd _ (Array.mem_of_getElem? (i := 0) rfl) rfl
      have t14 : ρ (.tmp 14) = v 2 := hs 2 14 (by decide) rfl
      rw [d2] at t14
      have d5 : v 5 = .string (fourT p.dst.toNat) := hd _ (Array.mem_of_getElem? (i := 1) rfl) rfl
      have t17 : ρ (.tmp 17) = v 5 := hs 5 17 (by decide) rfl
      rw [d5] at t17
      simp [execOp, go_sem, t14, t17]
      first | exact ⟨hC, Below.refl _ _, rfl⟩ | (rw [if_neg (by omega)]; exact ⟨hC, Below.refl _ _, rfl⟩)
    · refine ⟨rfl, fun v W ρ hC hc hf hs hi hd => ?_⟩
      have t1 : ρ (.tmp 1) = .pointer (some ⟨w.heap.size, 0, none⟩) := hi 1 (by decide)
      simp [execOp, go_sem, t1]
      exact ⟨hC, Below.refl _ _, rfl⟩
    · refine ⟨rfl, fun v W ρ hC hc hf hs hi hd => ?_⟩
      have d7 : v 7 = .pointer (some ⟨w.heap.size, 2, none⟩) := hd _ (Array.mem_of_getElem? (i := 0) rfl) rfl
      have t19 : ρ (.tmp 19) = v 7 := hs 7 19 (by decide) rfl
      rw [d7] at t19
      have hp := HP.out.later hC
      obtain ⟨c0, c1, c2, c3, c4, c5, c6, c7, c8, c9⟩ := hp
      simp [execOp, go_sem, t19, c2]
      exact ⟨hC, Below.refl _ _, rfl⟩
    · refine ⟨rfl, fun v W ρ hC hc hf hs hi hd => ?_⟩
      have d8 : v 8 = .int .i64 p.proto := hd _ (Array.mem_of_getElem? (i := 0) rfl) rfl
      have t20 : ρ (.tmp 20) = v 8 := hs 8 20 (by decide) rfl
      rw [d8] at t20
      simp [execOp, go_sem, t20, hwf]
      exact ⟨hC, Below.refl _ _, rfl⟩
    · refine ⟨rfl, fun v W ρ hC hc hf hs hi hd => ?_⟩
      have d9 : v 9 = .int .u8 p.proto := hd _ (Array.mem_of_getElem? (i := 0) rfl) rfl
      have t21 : ρ (.tmp 21) = v 9 := hs 9 21 (by decide) rfl
      rw [d9] at t21
      simp [execOp, go_sem, t21, hc]
      exact ⟨hC.alloc hC.size _, (Below.refl _ _).alloc (Nat.le_refl _) _, W.heap.size, rfl, row_at [0, p.proto] (by simp; omega)⟩
    · refine ⟨rfl, fun v W ρ hC hc hf hs hi hd => ?_⟩
      obtain ⟨B10, e10, hB10⟩ : ∃ B, v 10 = .slice (some ⟨B, 0, none⟩) (rowL [0, p.proto]).length (rowL [0, p.proto]).length ∧ BytesAt B (rowL [0, p.proto]) W := hd _ (Array.mem_of_getElem? (i := 0) rfl) rfl
      have t22 : ρ (.tmp 22) = v 10 := hs 10 22 (by decide) rfl
      rw [e10] at t22
      have hcv := BytesAt.conv (rowL [0, p.proto]).length hB10
      simp [execOp, go_sem, t22, hcv]
      exact ⟨hC, Below.refl _ _, rfl⟩
    · refine ⟨rfl, fun v W ρ hC hc hf hs hi hd => ?_⟩
      have d6 : v 6 = .string (fourT p.src.toNat ++ (fourT p.dst.toNat)) := hd _ (Array.mem_of_getElem? (i := 0) rfl) rfl
      have t18 : ρ (.tmp 18) = v 6 := hs 6 18 (by decide) rfl
      rw [d6] at t18
      have d11 : v 11 = .string (rowT [0, p.proto]) := hd _ (Array.mem_of_getElem? (i := 1) rfl) rfl
      have t23 : ρ (.tmp 23) = v 11 := hs 11 23 (by decide) rfl
      rw [d11] at t23
      simp [execOp, go_sem, t18, t23]
      first | exact ⟨hC, Below.refl _ _, rfl⟩ | (rw [if_neg (by omega)]; exact ⟨hC, Below.refl _ _, rfl⟩)
    · refine ⟨rfl, fun v W ρ hC hc hf hs hi hd => ?_⟩
      have t3 : ρ (.tmp 3) = .string t := hi 3 (by decide)
      simp [execOp, go_sem, t3]
      exact ⟨hC, Below.refl _ _, rfl⟩
    · refine ⟨rfl, fun v W ρ hC hc hf hs hi hd => ?_⟩
      have d13 : v 13 = .string t := hd _ (Array.mem_of_getElem? (i := 0) rfl) rfl
      have t25 : ρ (.tmp 25) = v 13 := hs 13 25 (by decide) rfl
      rw [d13] at t25
      simp [execOp, go_sem, t25]
      exact ⟨hC, Below.refl _ _, rfl⟩
    · refine ⟨rfl, fun v W ρ hC hc hf hs hi hd => ?_⟩
      have d14 : v 14 = .int .i64 (t.size : Int) := hd _ (Array.mem_of_getElem? (i := 0) rfl) rfl
      have t26 : ρ (.tmp 26) = v 14 := hs 14 26 (by decide) rfl
      rw [d14] at t26
      simp [execOp, go_sem, t26, hf]
      exact Calls.mono (l02Two_x _ _ (by assumption)) (fun e x h => ⟨_, h.1, hC.trans (h.2.mono hC.size), h.2, rfl⟩)
    · refine ⟨rfl, fun v W ρ hC hc hf hs hi hd => ?_⟩
      have d12 : v 12 = .string (fourT p.src.toNat ++ (fourT p.dst.toNat) ++ (rowT [0, p.proto])) := hd _ (Array.mem_of_getElem? (i := 0) rfl) rfl
      have t24 : ρ (.tmp 24) = v 12 := hs 12 24 (by decide) rfl
      rw [d12] at t24
      have d15 : v 15 = .string (twoT t.size) := hd _ (Array.mem_of_getElem? (i := 1) rfl) rfl
      have t27 : ρ (.tmp 27) = v 15 := hs 15 27 (by decide) rfl
      rw [d15] at t27
      simp [execOp, go_sem, t24, t27]
      first | exact ⟨hC, Below.refl _ _, rfl⟩ | (rw [if_neg (by omega)]; exact ⟨hC, Below.refl _ _, rfl⟩)
    · refine ⟨rfl, fun v W ρ hC hc hf hs hi hd => ?_⟩
      have t3 : ρ (.tmp 3) = .string t := hi 3 (by decide)
      simp [execOp, go_sem, t3]
      exact ⟨hC, Below.refl _ _, rfl⟩
    · refine ⟨rfl, fun v W ρ hC hc hf hs hi hd => ?_⟩
      have d16 : v 16 = .string (fourT p.src.toNat ++ (fourT p.dst.toNat) ++ (rowT [0, p.proto]) ++ (twoT t.size)) := hd _ (Array.mem_of_getElem? (i := 0) rfl) rfl
      have t28 : ρ (.tmp 28) = v 16 := hs 16 28 (by decide) rfl
      rw [d16] at t28
      have d17 : v 17 = .string t := hd _ (Array.mem_of_getElem? (i := 1) rfl) rfl
      have t29 : ρ (.tmp 29) = v 17 := hs 17 29 (by decide) rfl
      rw [d17] at t29
      simp [execOp, go_sem, t28, t29]
      first | exact ⟨hC, Below.refl _ _, rfl⟩ | (rw [if_neg (by omega)]; exact ⟨hC, Below.refl _ _, rfl⟩)
    · refine ⟨rfl, fun v W ρ hC hc hf hs hi hd => ?_⟩
      have d18 : v 18 = .string (fourT p.src.toNat ++ (fourT p.dst.toNat) ++ (rowT [0, p.proto]) ++ (twoT t.size) ++ t) := hd _ (Array.mem_of_getElem? (i := 0) rfl) rfl
      have t30 : ρ (.tmp 30) = v 18 := hs 18 30 (by decide) rfl
      rw [d18] at t30
      simp [execOp, go_sem, t30, hf]
      exact Calls.mono (specCheckOf_b _ _ (by simp only [ByteArray.size_append, twoT_size, fourT_size, rowT_size, List.length_cons, List.length_nil]; unfold maxLen; omega)) (fun e x h => ⟨_, h.1, hC.trans (h.2.mono hC.size), h.2, rfl⟩)
    · refine ⟨rfl, fun v W ρ hC hc hf hs hi hd => ?_⟩
      have d19 : v 19 = .int .i64 (checkAns (fourT p.src.toNat ++ (fourT p.dst.toNat) ++ (rowT [0, p.proto]) ++ (twoT t.size) ++ t)) := hd _ (Array.mem_of_getElem? (i := 0) rfl) rfl
      have t31 : ρ (.tmp 31) = v 19 := hs 19 31 (by decide) rfl
      rw [d19] at t31
      simp [execOp, go_sem, t31]
      exact ⟨hC, Below.refl _ _, rfl⟩
  case fin =>
    intro v W hC hall
    have hL4 : v 20 = .int .i64 (checkAns (fourT p.src.toNat ++ (fourT p.dst.toNat) ++ (rowT [0, p.proto]) ++ (twoT t.size) ++ t)) := hall 20 (by decide)
    simp [upto, Act.put]
    rw [hL4]
    clear hall hL4
    have hE := hidS (hB1.out.trans (hC.mono hB1.out.size))
    have hp := HP.out.later hC
    obtain ⟨c0, c1, c2, c3, c4, c5, c6, c7, c8, c9⟩ := hp
    by_cases hz : p.proto = 17 ∧ checkAns (pseudoT p t) = 0
    · have e : Hid (checkT p = 65535) := by unfold checkT; rw [if_neg H1.out, ← HT.out, if_pos hz]; rfl
      obtain ⟨h17, hz0⟩ := hz
      have h17' : (p.proto == 17) = true := beq_iff_eq.2 h17
      have hz' : (checkAns (pseudoT p t) == 0) = true := beq_iff_eq.2 hz0
      clear h17 hz0
      unfold pseudoT at hz'
      go_wp2
      go_ret
      exact ⟨by rw [e.out]; rfl, hE.out⟩
    · have e : Hid (checkT p = checkAns (pseudoT p t)) := by unfold checkT; rw [if_neg H1.out, ← HT.out, if_neg hz]; rfl
      by_cases h17 : p.proto = 17
      · have h17' : (p.proto == 17) = true := beq_iff_eq.2 h17
        have hz' : (checkAns (pseudoT p t) == 0) = false := beq_eq_false_iff_ne.2 (fun q => hz ⟨h17, q⟩)
        clear h17 hz
        unfold pseudoT at hz'
        go_wp2
        go_ret
        exact ⟨by rw [e.out]; rfl, hE.out⟩
      · have h17' : (p.proto == 17) = false := beq_eq_false_iff_ne.2 h17
        clear h17 hz
        go_wp2
        go_ret
        exact ⟨by rw [e.out]; rfl, hE.out⟩
end Go.Proofs.YtedknnkdnccfmaaGreatDoor
