/- Proved here: spec.l03Bytes answers a right packet's bytes; all old memory stays (condition: its numbers are within their bounds). · Proved here: spec.l02Is answers whether a number lies between two, and leaves memory alone (no conditions). · Proved here: spec.l02Word answers whether a number lies there, and leaves memory alone (no conditions). · Proved here: spec.l02Addr answers whether a number is an address, and leaves memory alone (no conditions). -/
import Derived.Test.YtedknnkdnccfmaaGreatDoorCheck3
import Derived.Test.YtedknnkdnccfmaaGreatDoorAll1
section
namespace Go.Proofs.YtedknnkdnccfmaaGreatDoor
open Go.ChangeShapes Go.WideShapes Go.ChangeAt Go.RowKit
set_option linter.unusedVariables false
set_option maxRecDepth 100000
set_option linter.unusedSimpArgs false

theorem l03Tail_x (p : Pk) (c : Int) (w : World) (h : Fine p) (hc : wordB c = true) :
    Calls Tryz.prog 103 #[.agg #[.int .i64 p.src, .int .i64 p.dst, .int .i64 p.proto, .int .i64 p.a, .int .i64 p.b, .int .i64 p.kind, .int .i64 p.flags, .int .i64 p.seq, .int .i64 p.ack, .string p.body], .int .i64 c] w fun e w' => e = .returned (.string (tailT p c.toNat)) ∧ Below w.heap.size w w' := by
  obtain ⟨n, rfl⟩ : ∃ n : Nat, c = n := ⟨c.toNat, by have := wordB_iff.1 hc; omega⟩
  exact l03Tail_any p n w h (by have := wordB_iff.1 hc; omega)
theorem l03Head_x (p : Pk) (n : Nat) (c : Int) (w : World) (h : Fine p) (hn : n ≤ 1000) (hc : wordB c = true) :
    Calls Tryz.prog 105 #[.agg #[.int .i64 p.src, .int .i64 p.dst, .int .i64 p.proto, .int .i64 p.a, .int .i64 p.b, .int .i64 p.kind, .int .i64 p.flags, .int .i64 p.seq, .int .i64 p.ack, .string p.body], .int .i64 (n : Int), .int .i64 c] w fun e w' => e = .returned (.string (headT p n c)) ∧ Below w.heap.size w w' :=
  l03Head_any p n c w h.src h.dst (by rcases h.proto with q | q | q <;> omega) (by rcases h.proto with q | q | q <;> omega) hn hc
/-- the bytes of a right packet -/
def bytesOf (p : Pk) : ByteArray := headT p (tailT p (checkT p).toNat).size (checkAns (headT p (tailT p (checkT p).toNat).size 0)) ++ tailT p (checkT p).toNat

set_option maxHeartbeats 4000000 in
theorem l03Bytes_any (p : Pk) (w : World) (h : Fine p) :
    Calls Tryz.prog 58 #[.agg #[.int .i64 p.src, .int .i64 p.dst, .int .i64 p.proto, .int .i64 p.a, .int .i64 p.b, .int .i64 p.kind, .int .i64 p.flags, .int .i64 p.seq, .int .i64 p.ack, .string p.body]] w fun e w' => e = .returned (.string (bytesOf p)) ∧ Below w.heap.size w w' := by
  have hS := h.small (checkT p).toNat
  have hck := checkT_word p
  have HF := hidS h
  clear h
  have HP := hidS (PkAt.new p w)
  have hB1 := hidS ((Below.refl w.heap.size w).alloc (Nat.le_refl _) (.cells #[.int .i64 p.src, .int .i64 p.dst, .int .i64 p.proto, .int .i64 p.a, .int .i64 p.b, .int .i64 p.kind, .int .i64 p.flags, .int .i64 p.seq, .int .i64 p.ack, .string p.body] 24))
  go_enter Tryz.func58, Tryz.ntmps58
  go_wp2_with fail
  generalize w.alloc (.cells #[.int .i64 p.src, .int .i64 p.dst, .int .i64 p.proto, .int .i64 p.a, .int .i64 p.b, .int .i64 p.kind, .int .i64 p.flags, .int .i64 p.seq, .int .i64 p.ack, .string p.body] 24) = w1 at HP hB1 ⊢
  refine grow_kinds 5 [.is (.agg #[.int .i64 p.src, .int .i64 p.dst, .int .i64 p.proto, .int .i64 p.a, .int .i64 p.b, .int .i64 p.kind, .int .i64 p.flags, .int .i64 p.seq, .int .i64 p.ack, .string p.body]), .is (.agg #[.int .i64 p.src, .int .i64 p.dst, .int .i64 p.proto, .int .i64 p.a, .int .i64 p.b, .int .i64 p.kind, .int .i64 p.flags, .int .i64 p.seq, .int .i64 p.ack, .string p.body]), .is (.int .i64 (checkT p)), .is (.string (tailT p (checkT p).toNat)), .is (.string (tailT p (checkT p).toNat))] rfl (by kernel_rfl) (by kernel_rfl) ?steps ?fin
  case steps =>
    refine ⟨?_, ?_, ?_, ?_, ?_, trivial⟩
    · refine ⟨rfl, fun v W ρ hC kc kf ks ki kd => ?_⟩
      have t1 : ρ (.tmp 1) = .pointer (some ⟨w.heap.size, 0, none⟩) := ki 1 (by decide)
      have hp := HP.out.later hC
      obtain ⟨c0, c1, c2, c3, c4, c5, c6, c7, c8, c9⟩ := hp
      simp [execOp, go_sem, t1, c0, c1, c2, c3, c4, c5, c6, c7, c8, c9]
      exact ⟨hC, Below.refl _ _, rfl⟩
    · refine ⟨rfl, fun v W ρ hC kc kf ks ki kd => ?_⟩
      have t1 : ρ (.tmp 1) = .pointer (some ⟨w.heap.size, 0, none⟩) := ki 1 (by decide)
      have hp := HP.out.later hC
      obtain ⟨c0, c1, c2, c3, c4, c5, c6, c7, c8, c9⟩ := hp
      simp [execOp, go_sem, t1, c0, c1, c2, c3, c4, c5, c6, c7, c8, c9]
      exact ⟨hC, Below.refl _ _, rfl⟩
    · refine ⟨rfl, fun v W ρ hC kc kf ks ki kd => ?_⟩
      have d1 : v 1 = .agg #[.int .i64 p.src, .int .i64 p.dst, .int .i64 p.proto, .int .i64 p.a, .int .i64 p.b, .int .i64 p.kind, .int .i64 p.flags, .int .i64 p.seq, .int .i64 p.ack, .string p.body] := kd _ (Array.mem_of_getElem? (i := 0) rfl) rfl
      have t6 : ρ (.tmp 6) = v 1 := ks 1 6 (by decide) rfl
      rw [d1] at t6
      simp [execOp, go_sem, t6, kf]
      exact Calls.mono (l03Check_any p _ HF.out) (fun e x h => ⟨_, h.1, hC.trans (h.2.mono hC.size), h.2, rfl⟩)
    · refine ⟨rfl, fun v W ρ hC kc kf ks ki kd => ?_⟩
      have d0 : v 0 = .agg #[.int .i64 p.src, .int .i64 p.dst, .int .i64 p.proto, .int .i64 p.a, .int .i64 p.b, .int .i64 p.kind, .int .i64 p.flags, .int .i64 p.seq, .int .i64 p.ack, .string p.body] := kd _ (Array.mem_of_getElem? (i := 0) rfl) rfl
      have t5 : ρ (.tmp 5) = v 0 := ks 0 5 (by decide) rfl
      rw [d0] at t5
      have d2 : v 2 = .int .i64 (checkT p) := kd _ (Array.mem_of_getElem? (i := 1) rfl) rfl
      have t7 : ρ (.tmp 7) = v 2 := ks 2 7 (by decide) rfl
      rw [d2] at t7
      simp [execOp, go_sem, t5, t7, kf]
      exact Calls.mono (l03Tail_x p _ _ HF.out hck) (fun e x h => ⟨_, h.1, hC.trans (h.2.mono hC.size), h.2, rfl⟩)
    · refine ⟨rfl, fun v W ρ hC kc kf ks ki kd => ?_⟩
      have d3 : v 3 = .string (tailT p (checkT p).toNat) := kd _ (Array.mem_of_getElem? (i := 0) rfl) rfl
      have t8 : ρ (.tmp 8) = v 3 := ks 3 8 (by decide) rfl
      rw [d3] at t8
      simp [execOp, go_sem, t8]
      exact ⟨hC, Below.refl _ _, rfl⟩
  case fin =>
    intro v W hC hall
    have hL3 : v 4 = .string (tailT p (checkT p).toNat) := hall 4 (by decide)
    simp [upto, Act.put]
    rw [hL3]
    clear hall hL3
    have hB2 := hidS (hB1.out.trans (hC.mono hB1.out.size))
    have HP2 := hidS (HP.out.later hC)
    clear hC hB1 HP
    have hE : Hid (bytesOf p = headT p (tailT p (checkT p).toNat).size (checkAns (headT p (tailT p (checkT p).toNat).size 0)) ++ tailT p (checkT p).toNat) := rfl
    generalize tailT p (checkT p).toNat = t at hS hE ⊢
    have hck1 : wordB (checkAns (headT p t.size 0)) = true := checkAns_word
    have z1 := headT_size p t.size (checkAns (headT p t.size 0))
    have z2 := headT_size p t.size 0
    have HP := HP2
    have hB1 := hB2
    go_wp2_with fail
    refine grow_kinds 10 [.is (.agg #[.int .i64 p.src, .int .i64 p.dst, .int .i64 p.proto, .int .i64 p.a, .int .i64 p.b, .int .i64 p.kind, .int .i64 p.flags, .int .i64 p.seq, .int .i64 p.ack, .string p.body]), .is (.int .i64 (t.size : Int)), .is (.agg #[.int .i64 p.src, .int .i64 p.dst, .int .i64 p.proto, .int .i64 p.a, .int .i64 p.b, .int .i64 p.kind, .int .i64 p.flags, .int .i64 p.seq, .int .i64 p.ack, .string p.body]), .is (.int .i64 (t.size : Int)), .is (.string (headT p t.size 0)), .is (.int .i64 (checkAns (headT p t.size 0))), .is (.string (headT p t.size (checkAns (headT p t.size 0)))), .is (.string t), .is (.string (headT p t.size (checkAns (headT p t.size 0)) ++ t)), .is (.string (headT p t.size (checkAns (headT p t.size 0)) ++ t))] rfl (by kernel_rfl) (by kernel_rfl) ?steps ?fin
    case steps =>
      refine ⟨?_, ?_, ?_, ?_, ?_, ?_, ?_, ?_, ?_, ?_, trivial⟩
      · refine ⟨rfl, fun v W ρ hC kc kf ks ki kd => ?_⟩
        have t1 : ρ (.tmp 1) = .pointer (some ⟨w.heap.size, 0, none⟩) := ki 1 (by decide)
        have hp := HP.out.later hC
        obtain ⟨c0, c1, c2, c3, c4, c5, c6, c7, c8, c9⟩ := hp
        simp [execOp, go_sem, t1, c0, c1, c2, c3, c4, c5, c6, c7, c8, c9]
        exact ⟨hC, Below.refl _ _, rfl⟩
      · refine ⟨rfl, fun v W ρ hC kc kf ks ki kd => ?_⟩
        have t4 : ρ (.tmp 4) = .int .i64 (t.size : Int) := ki 4 (by decide)
        simp [execOp, go_sem, t4]
        exact ⟨hC, Below.refl _ _, rfl⟩
      · refine ⟨rfl, fun v W ρ hC kc kf ks ki kd => ?_⟩
        have t1 : ρ (.tmp 1) = .pointer (some ⟨w.heap.size, 0, none⟩) := ki 1 (by decide)
        have hp := HP.out.later hC
        obtain ⟨c0, c1, c2, c3, c4, c5, c6, c7, c8, c9⟩ := hp
        simp [execOp, go_sem, t1, c0, c1, c2, c3, c4, c5, c6, c7, c8, c9]
        exact ⟨hC, Below.refl _ _, rfl⟩
      · refine ⟨rfl, fun v W ρ hC kc kf ks ki kd => ?_⟩
        have t4 : ρ (.tmp 4) = .int .i64 (t.size : Int) := ki 4 (by decide)
        simp [execOp, go_sem, t4]
        exact ⟨hC, Below.refl _ _, rfl⟩
      · refine ⟨rfl, fun v W ρ hC kc kf ks ki kd => ?_⟩
        have d2 : v 2 = .agg #[.int .i64 p.src, .int .i64 p.dst, .int .i64 p.proto, .int .i64 p.a, .int .i64 p.b, .int .i64 p.kind, .int .i64 p.flags, .int .i64 p.seq, .int .i64 p.ack, .string p.body] := kd _ (Array.mem_of_getElem? (i := 0) rfl) rfl
        have t13 : ρ (.tmp 13) = v 2 := ks 2 13 (by decide) rfl
        rw [d2] at t13
        have d3 : v 3 = .int .i64 (t.size : Int) := kd _ (Array.mem_of_getElem? (i := 1) rfl) rfl
        have t14 : ρ (.tmp 14) = v 3 := ks 3 14 (by decide) rfl
        rw [d3] at t14
        simp [execOp, go_sem, t13, t14, kf, kc]
        exact Calls.mono (l03Head_x p _ _ _ HF.out (by omega) rfl) (fun e x h => ⟨_, h.1, hC.trans (h.2.mono hC.size), h.2, rfl⟩)
      · refine ⟨rfl, fun v W ρ hC kc kf ks ki kd => ?_⟩
        have d4 : v 4 = .string (headT p t.size 0) := kd _ (Array.mem_of_getElem? (i := 0) rfl) rfl
        have t15 : ρ (.tmp 15) = v 4 := ks 4 15 (by decide) rfl
        rw [d4] at t15
        simp [execOp, go_sem, t15, kf]
        exact Calls.mono (specCheckOf_b _ _ (by rw [z2]; unfold maxLen; omega)) (fun e x h => ⟨_, h.1, hC.trans (h.2.mono hC.size), h.2, rfl⟩)
      · refine ⟨rfl, fun v W ρ hC kc kf ks ki kd => ?_⟩
        have d0 : v 0 = .agg #[.int .i64 p.src, .int .i64 p.dst, .int .i64 p.proto, .int .i64 p.a, .int .i64 p.b, .int .i64 p.kind, .int .i64 p.flags, .int .i64 p.seq, .int .i64 p.ack, .string p.body] := kd _ (Array.mem_of_getElem? (i := 0) rfl) rfl
        have t11 : ρ (.tmp 11) = v 0 := ks 0 11 (by decide) rfl
        rw [d0] at t11
        have d1 : v 1 = .int .i64 (t.size : Int) := kd _ (Array.mem_of_getElem? (i := 1) rfl) rfl
        have t12 : ρ (.tmp 12) = v 1 := ks 1 12 (by decide) rfl
        rw [d1] at t12
        have d5 : v 5 = .int .i64 (checkAns (headT p t.size 0)) := kd _ (Array.mem_of_getElem? (i := 2) rfl) rfl
        have t16 : ρ (.tmp 16) = v 5 := ks 5 16 (by decide) rfl
        rw [d5] at t16
        simp [execOp, go_sem, t11, t12, t16, kf]
        exact Calls.mono (l03Head_x p _ _ _ HF.out (by omega) hck1) (fun e x h => ⟨_, h.1, hC.trans (h.2.mono hC.size), h.2, rfl⟩)
      · refine ⟨rfl, fun v W ρ hC kc kf ks ki kd => ?_⟩
        have t3 : ρ (.tmp 3) = .string t := ki 3 (by decide)
        simp [execOp, go_sem, t3]
        exact ⟨hC, Below.refl _ _, rfl⟩
      · refine ⟨rfl, fun v W ρ hC kc kf ks ki kd => ?_⟩
        have d6 : v 6 = .string (headT p t.size (checkAns (headT p t.size 0))) := kd _ (Array.mem_of_getElem? (i := 0) rfl) rfl
        have t17 : ρ (.tmp 17) = v 6 := ks 6 17 (by decide) rfl
        rw [d6] at t17
        have d7 : v 7 = .string t := kd _ (Array.mem_of_getElem? (i := 1) rfl) rfl
        have t18 : ρ (.tmp 18) = v 7 := ks 7 18 (by decide) rfl
        rw [d7] at t18
        simp [execOp, go_sem, t17, t18]
        first | exact ⟨hC, Below.refl _ _, rfl⟩ | (rw [if_neg (by omega)]; exact ⟨hC, Below.refl _ _, rfl⟩)
      · refine ⟨rfl, fun v W ρ hC kc kf ks ki kd => ?_⟩
        have d8 : v 8 = .string (headT p t.size (checkAns (headT p t.size 0)) ++ t) := kd _ (Array.mem_of_getElem? (i := 0) rfl) rfl
        have t19 : ρ (.tmp 19) = v 8 := ks 8 19 (by decide) rfl
        rw [d8] at t19
        simp [execOp, go_sem, t19]
        exact ⟨hC, Below.refl _ _, rfl⟩
    case fin =>
      intro v W hC hall
      have hL2 : v 9 = .string (headT p t.size (checkAns (headT p t.size 0)) ++ t) := hall 9 (by decide)
      simp [upto, Act.put]
      rw [hL2]
      clear hall hL2
      have hE2 := hidS (hB1.out.trans (hC.mono hB1.out.size))
      go_wp2
      go_ret
      exact ⟨by rw [hE.out]; rfl, hE2.out⟩
/-- what PacketBytes is to answer -/
def bytesAns (p : Pk) : ByteArray := if rightB p = true then bytesOf p else ⟨#[]⟩
end Go.Proofs.YtedknnkdnccfmaaGreatDoor
end

section
namespace Go.Proofs.YtedknnkdnccfmaaGreatDoor
open Go.ChangeShapes Go.WideShapes Go.ChangeAt Go.RowKit
open Go.ChangeMaps (open_string shut_string)
set_option linter.unusedVariables false

theorem l02Is_any (n lo hi : Int) (w : World) :
    Calls Tryz.prog 61 #[.int .i64 n, .int .i64 lo, .int .i64 hi] w fun e w' => e = .returned (.bool (decide (lo ≤ n) && decide (n ≤ hi))) ∧ w' = w := by
  by_cases h1 : lo ≤ n
  · by_cases h2 : n ≤ hi
    · go_enter Tryz.func61, Tryz.ntmps61
      go_wp2
      go_ret
      exact ⟨by simp [h1, h2], rfl⟩
    · go_enter Tryz.func61, Tryz.ntmps61
      go_wp2
      go_ret
      exact ⟨by simp [h2], rfl⟩
  · go_enter Tryz.func61, Tryz.ntmps61
    go_wp2
    go_ret
    exact ⟨by simp; omega, rfl⟩
end Go.Proofs.YtedknnkdnccfmaaGreatDoor
end

section
namespace Go.Proofs.YtedknnkdnccfmaaGreatDoor
open Go.ChangeShapes Go.WideShapes Go.ChangeAt Go.RowKit
open Go.ChangeMaps (open_string shut_string)
set_option linter.unusedVariables false

theorem l02Word_any (n : Int) (w : World) :
    Calls Tryz.prog 60 #[.int .i64 n] w fun e w' => e = .returned (.bool (wordB n)) ∧ w' = w := by
  go_enter Tryz.func60, Tryz.ntmps60
  go_wp2_with fail
  refine (l02Is_any n 0 65535 _).mono ?_
  rintro e w1 ⟨rfl, rfl⟩
  go_wp2
  go_ret
  exact ⟨rfl, rfl⟩
end Go.Proofs.YtedknnkdnccfmaaGreatDoor
end

section
namespace Go.Proofs.YtedknnkdnccfmaaGreatDoor
open Go.ChangeShapes Go.WideShapes Go.ChangeAt Go.RowKit
set_option linter.unusedVariables false

theorem l02Addr_any (n : Int) (w : World) :
    Calls Tryz.prog 59 #[.int .i64 n] w fun e w' => e = .returned (.bool (addrB n)) ∧ w' = w := by
  go_enter Tryz.func59, Tryz.ntmps59
  go_wp2_with fail
  refine (l02Is_any n 0 4294967295 _).mono ?_
  rintro e w1 ⟨rfl, rfl⟩
  go_wp2
  go_ret
  exact ⟨rfl, rfl⟩

end Go.Proofs.YtedknnkdnccfmaaGreatDoor
end
