/- Proved here: spec.l03Tail answers what is behind the head of a packet; all old memory stays (condition: the packet's numbers are within their bounds). -/
import Derived.Test.YtedknnkdnccfmaaGreatDoorAll7
namespace Go.Proofs.YtedknnkdnccfmaaGreatDoor
open Go.ChangeShapes Go.WideShapes Go.ChangeAt Go.RowKit
open Go.ChangeMaps (open_string shut_string)
set_option linter.unusedVariables false
set_option maxRecDepth 100000
set_option linter.unusedSimpArgs false

/-- what is behind the head, with a check -/
def tailT (p : Pk) (c : Nat) : ByteArray :=
  if p.proto = 6 then twoT p.a.toNat ++ twoT p.b.toNat ++ fourT p.seq.toNat ++ fourT p.ack.toNat ++ rowT [80, p.flags, 32, 0] ++ twoT c ++ ⟨#[0, 0]⟩ ++ p.body
  else if p.proto = 17 then twoT p.a.toNat ++ twoT p.b.toNat ++ twoT (8 + (p.body.size : Int)).toNat ++ twoT c ++ p.body
  else if p.kind = 3 then rowT [p.kind, 1] ++ twoT c ++ twoT p.a.toNat ++ twoT p.seq.toNat ++ p.body
  else rowT [p.kind, 0] ++ twoT c ++ twoT p.a.toNat ++ twoT p.seq.toNat ++ p.body
set_option maxHeartbeats 4000000 in
theorem l03Tail_tcp (p : Pk) (c : Nat) (w : World) (h6 : p.proto = 6) (hc : c ≤ 65535) (ha : wordB p.a = true) (hb : wordB p.b = true) (hf : flagB p.flags = true) (hq : addrB p.seq = true) (hk : addrB p.ack = true) (hs : p.body.size ≤ 1000) :
    Calls Tryz.prog 103 #[.agg #[.int .i64 p.src, .int .i64 p.dst, .int .i64 p.proto, .int .i64 p.a, .int .i64 p.b, .int .i64 p.kind, .int .i64 p.flags, .int .i64 p.seq, .int .i64 p.ack, .string p.body], .int .i64 (c : Int)] w fun e w' => e = .returned (.string (tailT p c)) ∧ Below w.heap.size w w' := by
  have h6' : (p.proto == 6) = true := beq_iff_eq.2 h6
  have z1 := twoT_size p.a.toNat
  have z2 := twoT_size p.b.toNat
  have z3 := fourT_size p.seq.toNat
  have z4 := fourT_size p.ack.toNat
  have z5 := twoT_size c
  have z6 : (rowT [80, p.flags, 32, 0]).size = 4 := rowT_size _
  have hf1 := (flagB_iff.1 hf).1
  have hf2 := (flagB_iff.1 hf).2
  have H6 := hidS h6
  clear hf h6
  go_enter Tryz.func103, Tryz.ntmps103
  go_wp2_with fail
  refine (l02Two_of c _ rfl hc).mono ?_
  rintro e w1 ⟨rfl, hb1⟩
  have hP1 := (PkAt.new p w).later hb1
  have hB1 := hidS (((Below.refl w.heap.size w).alloc (Nat.le_refl _) _).trans (hb1.mono (by simp)))
  clear hb1
  have HP := hidS hP1
  obtain ⟨_, _, c2, c3, c4, c5, c6, c7, c8, c9⟩ := hP1
  go_wp2_with fail
  have hwf : IntKind.u8.wrap p.flags = p.flags := IntWalk.u8_in _ (by omega)
  refine grow_kinds 28 [.is (.pointer (some ⟨w.heap.size, 3, none⟩)), .is (.int .i64 p.a), .is (.string (twoT p.a.toNat)), .is (.pointer (some ⟨w.heap.size, 4, none⟩)), .is (.int .i64 p.b), .is (.string (twoT p.b.toNat)), .is (.string (twoT p.a.toNat ++ (twoT p.b.toNat))), .is (.pointer (some ⟨w.heap.size, 7, none⟩)), .is (.int .i64 p.seq), .is (.string (fourT p.seq.toNat)), .is (.string (twoT p.a.toNat ++ (twoT p.b.toNat) ++ (fourT p.seq.toNat))), .is (.pointer (some ⟨w.heap.size, 8, none⟩)), .is (.int .i64 p.ack), .is (.string (fourT p.ack.toNat)), .is (.string (twoT p.a.toNat ++ (twoT p.b.toNat) ++ (fourT p.seq.toNat) ++ (fourT p.ack.toNat))), .is (.pointer (some ⟨w.heap.size, 6, none⟩)), .is (.int .i64 p.flags), .is (.int .u8 p.flags), .row (rowL [80, p.flags, 32, 0]), .is (.string (rowT [80, p.flags, 32, 0])), .is (.string (twoT p.a.toNat ++ (twoT p.b.toNat) ++ (fourT p.seq.toNat) ++ (fourT p.ack.toNat) ++ (rowT [80, p.flags, 32, 0]))), .is (.string (twoT c)), .is (.string (twoT p.a.toNat ++ (twoT p.b.toNat) ++ (fourT p.seq.toNat) ++ (fourT p.ack.toNat) ++ (rowT [80, p.flags, 32, 0]) ++ (twoT c))), .is (.string (twoT p.a.toNat ++ (twoT p.b.toNat) ++ (fourT p.seq.toNat) ++ (fourT p.ack.toNat) ++ (rowT [80, p.flags, 32, 0]) ++ (twoT c) ++ ⟨#[0, 0]⟩)), .is (.pointer (some ⟨w.heap.size, 9, none⟩)), .is (.string p.body), .is (.string (twoT p.a.toNat ++ (twoT p.b.toNat) ++ (fourT p.seq.toNat) ++ (fourT p.ack.toNat) ++ (rowT [80, p.flags, 32, 0]) ++ (twoT c) ++ ⟨#[0, 0]⟩ ++ p.body)), .is (.string (twoT p.a.toNat ++ (twoT p.b.toNat) ++ (fourT p.seq.toNat) ++ (fourT p.ack.toNat) ++ (rowT [80, p.flags, 32, 0]) ++ (twoT c) ++ ⟨#[0, 0]⟩ ++ p.body))] rfl (by kernel_rfl) (by kernel_rfl) ?steps ?fin
  case steps =>
    refine ⟨?_, ?_, ?_, ?_, ?_, ?_, ?_, ?_, ?_, ?_, ?_, ?_, ?_, ?_, ?_, ?_, ?_, ?_, ?_, ?_, ?_, ?_, ?_, ?_, ?_, ?_, ?_, ?_, trivial⟩
    · refine ⟨rfl, fun v W ρ hC hc hf hs hi hd => ?_⟩
      have t2 : ρ (.tmp 2) = .pointer (some ⟨w.heap.size, 0, none⟩) := hi 2 (by decide)
      simp [execOp, go_sem, t2]
      exact ⟨hC, Below.refl _ _, rfl⟩
    · refine ⟨rfl, fun v W ρ hC hc hf hs hi hd => ?_⟩
      have d0 : v 0 = .pointer (some ⟨w.heap.size, 3, none⟩) := hd _ (Array.mem_of_getElem? (i := 0) rfl) rfl
      have t13 : ρ (.tmp 13) = v 0 := hs 0 13 (by decide) rfl
      rw [d0] at t13
      have hp := HP.out.later hC
      obtain ⟨_, _, _, c3, c4, c5, c6, c7, c8, c9⟩ := hp
      simp [execOp, go_sem, t13, c3]
      exact ⟨hC, Below.refl _ _, rfl⟩
    · refine ⟨rfl, fun v W ρ hC hc hf hs hi hd => ?_⟩
      have d1 : v 1 = .int .i64 p.a := hd _ (Array.mem_of_getElem? (i := 0) rfl) rfl
      have t14 : ρ (.tmp 14) = v 1 := hs 1 14 (by decide) rfl
      rw [d1] at t14
      simp [execOp, go_sem, t14, hf]
      exact Calls.mono (l02Two_x _ _ (by assumption)) (fun e x h => ⟨_, h.1, hC.trans (h.2.mono hC.size), h.2, rfl⟩)
    · refine ⟨rfl, fun v W ρ hC hc hf hs hi hd => ?_⟩
      have t2 : ρ (.tmp 2) = .pointer (some ⟨w.heap.size, 0, none⟩) := hi 2 (by decide)
      simp [execOp, go_sem, t2]
      exact ⟨hC, Below.refl _ _, rfl⟩
    · refine ⟨rfl, fun v W ρ hC hc hf hs hi hd => ?_⟩
      have d3 : v 3 = .pointer (some ⟨w.heap.size, 4, none⟩) := hd _ (Array.mem_of_getElem? (i := 0) rfl) rfl
      have t16 : ρ (.tmp 16) = v 3 := hs 3 16 (by decide) rfl
      rw [d3] at t16
      have hp := HP.out.later hC
      obtain ⟨_, _, _, c3, c4, c5, c6, c7, c8, c9⟩ := hp
      simp [execOp, go_sem, t16, c4]
      exact ⟨hC, Below.refl _ _, rfl⟩
    · refine ⟨rfl, fun v W ρ hC hc hf hs hi hd => ?_⟩
      have d4 : v 4 = .int .i64 p.b := hd _ (Array.mem_of_getElem? (i := 0) rfl) rfl
      have t17 : ρ (.tmp 17) = v 4 := hs 4 17 (by decide) rfl
      rw [d4] at t17
      simp [execOp, go_sem, t17, hf]
      exact Calls.mono (l02Two_x _ _ (by assumption)) (fun e x h => ⟨_, h.1, hC.trans (h.2.mono hC.size), h.2, rfl⟩)
    · refine ⟨rfl, fun v W ρ hC hc hf hs hi hd => ?_⟩
      have d2 : v 2 = .string (twoT p.a.toNat) := hd _ (Array.mem_of_getElem? (i := 0) rfl) rfl
      have t15 : ρ (.tmp 15) = v 2 := hs 2 15 (by decide) rfl
      rw [d2] at t15
      have d5 : v 5 = .string (twoT p.b.toNat) := hd _ (Array.mem_of_getElem? (i := 1) rfl) rfl
      have t18 : ρ (.tmp 18) = v 5 := hs 5 18 (by decide) rfl
      rw [d5] at t18
      simp [execOp, go_sem, t15, t18]
      first | exact ⟨hC, Below.refl _ _, rfl⟩ | (rw [if_neg (by omega)]; exact ⟨hC, Below.refl _ _, rfl⟩)
    · refine ⟨rfl, fun v W ρ hC hc hf hs hi hd => ?_⟩
      have t2 : ρ (.tmp 2) = .pointer (some ⟨w.heap.size, 0, none⟩) := hi 2 (by decide)
      simp [execOp, go_sem, t2]
      exact ⟨hC, Below.refl _ _, rfl⟩
    · refine ⟨rfl, fun v W ρ hC hc hf hs hi hd => ?_⟩
      have d7 : v 7 = .pointer (some ⟨w.heap.size, 7, none⟩) := hd _ (Array.mem_of_getElem? (i := 0) rfl) rfl
      have t20 : ρ (.tmp 20) = v 7 := hs 7 20 (by decide) rfl
      rw [d7] at t20
      have hp := HP.out.later hC
      obtain ⟨_, _, _, c3, c4, c5, c6, c7, c8, c9⟩ := hp
      simp [execOp, go_sem, t20, c7]
      exact ⟨hC, Below.refl _ _, rfl⟩
    · refine ⟨rfl, fun v W ρ hC hc hf hs hi hd => ?_⟩
      have d8 : v 8 = .int .i64 p.seq := hd _ (Array.mem_of_getElem? (i := 0) rfl) rfl
      have t21 : ρ (.tmp 21) = v 8 := hs 8 21 (by decide) rfl
      rw [d8] at t21
      simp [execOp, go_sem, t21, hf]
      exact Calls.mono (l03Four_x _ _ (by assumption)) (fun e x h => ⟨_, h.1, hC.trans (h.2.mono hC.size), h.2, rfl⟩)
    · refine ⟨rfl, fun v W ρ hC hc hf hs hi hd => ?_⟩
      have d6 : v 6 = .string (twoT p.a.toNat ++ (twoT p.b.toNat)) := hd _ (Array.mem_of_getElem? (i := 0) rfl) rfl
      have t19 : ρ (.tmp 19) = v 6 := hs 6 19 (by decide) rfl
      rw [d6] at t19
      have d9 : v 9 = .string (fourT p.seq.toNat) := hd _ (Array.mem_of_getElem? (i := 1) rfl) rfl
      have t22 : ρ (.tmp 22) = v 9 := hs 9 22 (by decide) rfl
      rw [d9] at t22
      simp [execOp, go_sem, t19, t22]
      first | exact ⟨hC, Below.refl _ _, rfl⟩ | (rw [if_neg (by omega)]; exact ⟨hC, Below.refl _ _, rfl⟩)
    · refine ⟨rfl, fun v W ρ hC hc hf hs hi hd => ?_⟩
      have t2 : ρ (.tmp 2) = .pointer (some ⟨w.heap.size, 0, none⟩) := hi 2 (by decide)
      simp [execOp, go_sem, t2]
      exact ⟨hC, Below.refl _ _, rfl⟩
    · refine ⟨rfl, fun v W ρ hC hc hf hs hi hd => ?_⟩
      have d11 : v 11 = .pointer (some ⟨w.heap.size, 8, none⟩) := hd _ (Array.mem_of_getElem? (i := 0) rfl) rfl
      have t24 : ρ (.tmp 24) = v 11 := hs 11 24 (by decide) rfl
      rw [d11] at t24
      have hp := HP.out.later hC
      obtain ⟨_, _, _, c3, c4, c5, c6, c7, c8, c9⟩ := hp
      simp [execOp, go_sem, t24, c8]
      exact ⟨hC, Below.refl _ _, rfl⟩
    · refine ⟨rfl, fun v W ρ hC hc hf hs hi hd => ?_⟩
      have d12 : v 12 = .int .i64 p.ack := hd _ (Array.mem_of_getElem? (i := 0) rfl) rfl
      have t25 : ρ (.tmp 25) = v 12 := hs 12 25 (by decide) rfl
      rw [d12] at t25
      simp [execOp, go_sem, t25, hf]
      exact Calls.mono (l03Four_x _ _ (by assumption)) (fun e x h => ⟨_, h.1, hC.trans (h.2.mono hC.size), h.2, rfl⟩)
    · refine ⟨rfl, fun v W ρ hC hc hf hs hi hd => ?_⟩
      have d10 : v 10 = .string (twoT p.a.toNat ++ (twoT p.b.toNat) ++ (fourT p.seq.toNat)) := hd _ (Array.mem_of_getElem? (i := 0) rfl) rfl
      have t23 : ρ (.tmp 23) = v 10 := hs 10 23 (by decide) rfl
      rw [d10] at t23
      have d13 : v 13 = .string (fourT p.ack.toNat) := hd _ (Array.mem_of_getElem? (i := 1) rfl) rfl
      have t26 : ρ (.tmp 26) = v 13 := hs 13 26 (by decide) rfl
      rw [d13] at t26
      simp [execOp, go_sem, t23, t26]
      first | exact ⟨hC, Below.refl _ _, rfl⟩ | (rw [if_neg (by omega)]; exact ⟨hC, Below.refl _ _, rfl⟩)
    · refine ⟨rfl, fun v W ρ hC hc hf hs hi hd => ?_⟩
      have t2 : ρ (.tmp 2) = .pointer (some ⟨w.heap.size, 0, none⟩) := hi 2 (by decide)
      simp [execOp, go_sem, t2]
      exact ⟨hC, Below.refl _ _, rfl⟩
    · refine ⟨rfl, fun v W ρ hC hc hf hs hi hd => ?_⟩
      have d15 : v 15 = .pointer (some ⟨w.heap.size, 6, none⟩) := hd _ (Array.mem_of_getElem? (i := 0) rfl) rfl
      have t28 : ρ (.tmp 28) = v 15 := hs 15 28 (by decide) rfl
      rw [d15] at t28
      have hp := HP.out.later hC
      obtain ⟨_, _, _, c3, c4, c5, c6, c7, c8, c9⟩ := hp
      simp [execOp, go_sem, t28, c6]
      exact ⟨hC, Below.refl _ _, rfl⟩
    · refine ⟨rfl, fun v W ρ hC hc hf hs hi hd => ?_⟩
      have d16 : v 16 = .int .i64 p.flags := hd _ (Array.mem_of_getElem? (i := 0) rfl) rfl
      have t29 : ρ (.tmp 29) = v 16 := hs 16 29 (by decide) rfl
      rw [d16] at t29
      simp [execOp, go_sem, t29, hwf]
      exact ⟨hC, Below.refl _ _, rfl⟩
    · refine ⟨rfl, fun v W ρ hC hc hf hs hi hd => ?_⟩
      have d17 : v 17 = .int .u8 p.flags := hd _ (Array.mem_of_getElem? (i := 0) rfl) rfl
      have t30 : ρ (.tmp 30) = v 17 := hs 17 30 (by decide) rfl
      rw [d17] at t30
      simp [execOp, go_sem, t30, hc]
      exact ⟨hC.alloc hC.size _, (Below.refl _ _).alloc (Nat.le_refl _) _, W.heap.size, rfl, row_at [80, p.flags, 32, 0] (by simp; omega)⟩
    · refine ⟨rfl, fun v W ρ hC hc hf hs hi hd => ?_⟩
      obtain ⟨B18, e18, hB18⟩ : ∃ B, v 18 = .slice (some ⟨B, 0, none⟩) (rowL [80, p.flags, 32, 0]).length (rowL [80, p.flags, 32, 0]).length ∧ BytesAt B (rowL [80, p.flags, 32, 0]) W := hd _ (Array.mem_of_getElem? (i := 0) rfl) rfl
      have t31 : ρ (.tmp 31) = v 18 := hs 18 31 (by decide) rfl
      rw [e18] at t31
      have hcv := BytesAt.conv (rowL [80, p.flags, 32, 0]).length hB18
      simp [execOp, go_sem, t31, hcv]
      exact ⟨hC, Below.refl _ _, rfl⟩
    · refine ⟨rfl, fun v W ρ hC hc hf hs hi hd => ?_⟩
      have d14 : v 14 = .string (twoT p.a.toNat ++ (twoT p.b.toNat) ++ (fourT p.seq.toNat) ++ (fourT p.ack.toNat)) := hd _ (Array.mem_of_getElem? (i := 0) rfl) rfl
      have t27 : ρ (.tmp 27) = v 14 := hs 14 27 (by decide) rfl
      rw [d14] at t27
      have d19 : v 19 = .string (rowT [80, p.flags, 32, 0]) := hd _ (Array.mem_of_getElem? (i := 1) rfl) rfl
      have t32 : ρ (.tmp 32) = v 19 := hs 19 32 (by decide) rfl
      rw [d19] at t32
      simp [execOp, go_sem, t27, t32]
      first | exact ⟨hC, Below.refl _ _, rfl⟩ | (rw [if_neg (by omega)]; exact ⟨hC, Below.refl _ _, rfl⟩)
    · refine ⟨rfl, fun v W ρ hC hc hf hs hi hd => ?_⟩
      have t5 : ρ (.tmp 5) = .string (twoT c) := hi 5 (by decide)
      simp [execOp, go_sem, t5]
      exact ⟨hC, Below.refl _ _, rfl⟩
    · refine ⟨rfl, fun v W ρ hC hc hf hs hi hd => ?_⟩
      have d20 : v 20 = .string (twoT p.a.toNat ++ (twoT p.b.toNat) ++ (fourT p.seq.toNat) ++ (fourT p.ack.toNat) ++ (rowT [80, p.flags, 32, 0])) := hd _ (Array.mem_of_getElem? (i := 0) rfl) rfl
      have t33 : ρ (.tmp 33) = v 20 := hs 20 33 (by decide) rfl
      rw [d20] at t33
      have d21 : v 21 = .string (twoT c) := hd _ (Array.mem_of_getElem? (i := 1) rfl) rfl
      have t34 : ρ (.tmp 34) = v 21 := hs 21 34 (by decide) rfl
      rw [d21] at t34
      simp [execOp, go_sem, t33, t34]
      first | exact ⟨hC, Below.refl _ _, rfl⟩ | (rw [if_neg (by omega)]; exact ⟨hC, Below.refl _ _, rfl⟩)
    · refine ⟨rfl, fun v W ρ hC hc hf hs hi hd => ?_⟩
      have d22 : v 22 = .string (twoT p.a.toNat ++ (twoT p.b.toNat) ++ (fourT p.seq.toNat) ++ (fourT p.ack.toNat) ++ (rowT [80, p.flags, 32, 0]) ++ (twoT c)) := hd _ (Array.mem_of_getElem? (i := 0) rfl) rfl
      have t35 : ρ (.tmp 35) = v 22 := hs 22 35 (by decide) rfl
      rw [d22] at t35
      simp [execOp, go_sem, t35, hc]
      first | exact ⟨hC, Below.refl _ _, rfl⟩ | (rw [if_neg (by omega)]; exact ⟨hC, Below.refl _ _, rfl⟩)
    · refine ⟨rfl, fun v W ρ hC hc hf hs hi hd => ?_⟩
      have t2 : ρ (.tmp 2) = .pointer (some ⟨w.heap.size, 0, none⟩) := hi 2 (by decide)
      simp [execOp, go_sem, t2]
      exact ⟨hC, Below.refl _ _, rfl⟩
    · refine ⟨rfl, fun v W ρ hC hc hf hs hi hd => ?_⟩
      have d24 : v 24 = .pointer (some ⟨w.heap.size, 9, none⟩) := hd _ (Array.mem_of_getElem? (i := 0) rfl) rfl
      have t37 : ρ (.tmp 37) = v 24 := hs 24 37 (by decide) rfl
      rw [d24] at t37
      have hp := HP.out.later hC
      obtain ⟨_, _, _, c3, c4, c5, c6, c7, c8, c9⟩ := hp
      simp [execOp, go_sem, t37, c9]
      exact ⟨hC, Below.refl _ _, rfl⟩
    · refine ⟨rfl, fun v W ρ hC hc hf hs hi hd => ?_⟩
      have d23 : v 23 = .string (twoT p.a.toNat ++ (twoT p.b.toNat) ++ (fourT p.seq.toNat) ++ (fourT p.ack.toNat) ++ (rowT [80, p.flags, 32, 0]) ++ (twoT c) ++ ⟨#[0, 0]⟩) := hd _ (Array.mem_of_getElem? (i := 0) rfl) rfl
      have t36 : ρ (.tmp 36) = v 23 := hs 23 36 (by decide) rfl
      rw [d23] at t36
      have d25 : v 25 = .string p.body := hd _ (Array.mem_of_getElem? (i := 1) rfl) rfl
      have t38 : ρ (.tmp 38) = v 25 := hs 25 38 (by decide) rfl
      rw [d25] at t38
      simp [execOp, go_sem, t36, t38]
      first | exact ⟨hC, Below.refl _ _, rfl⟩ | (rw [if_neg (by omega)]; exact ⟨hC, Below.refl _ _, rfl⟩)
    · refine ⟨rfl, fun v W ρ hC hc hf hs hi hd => ?_⟩
      have d26 : v 26 = .string (twoT p.a.toNat ++ (twoT p.b.toNat) ++ (fourT p.seq.toNat) ++ (fourT p.ack.toNat) ++ (rowT [80, p.flags, 32, 0]) ++ (twoT c) ++ ⟨#[0, 0]⟩ ++ p.body) := hd _ (Array.mem_of_getElem? (i := 0) rfl) rfl
      have t39 : ρ (.tmp 39) = v 26 := hs 26 39 (by decide) rfl
      rw [d26] at t39
      simp [execOp, go_sem, t39]
      exact ⟨hC, Below.refl _ _, rfl⟩
  case fin =>
    intro v W hC hall
    have hL : v 27 = .string (twoT p.a.toNat ++ (twoT p.b.toNat) ++ (fourT p.seq.toNat) ++ (fourT p.ack.toNat) ++ (rowT [80, p.flags, 32, 0]) ++ (twoT c) ++ ⟨#[0, 0]⟩ ++ p.body) := hall 27 (by decide)
    simp [upto, Act.put]
    rw [hL]
    clear hall hL
    have hE := hidS (hB1.out.trans (hC.mono hB1.out.size))
    go_wp2
    go_ret
    exact ⟨by unfold tailT; rw [if_pos H6.out]; rfl, hE.out⟩

set_option maxHeartbeats 4000000 in
theorem l03Tail_udp (p : Pk) (c : Nat) (w : World) (h17 : p.proto = 17) (hc : c ≤ 65535) (ha : wordB p.a = true) (hb : wordB p.b = true) (hs : p.body.size ≤ 1000) :
    Calls Tryz.prog 103 #[.agg #[.int .i64 p.src, .int .i64 p.dst, .int .i64 p.proto, .int .i64 p.a, .int .i64 p.b, .int .i64 p.kind, .int .i64 p.flags, .int .i64 p.seq, .int .i64 p.ack, .string p.body], .int .i64 (c : Int)] w fun e w' => e = .returned (.string (tailT p c)) ∧ Below w.heap.size w w' := by
  have h6' : (p.proto == 6) = false := by rw [h17]; rfl
  have h17' : (p.proto == 17) = true := beq_iff_eq.2 h17
  have z1 := twoT_size p.a.toNat
  have z2 := twoT_size p.b.toNat
  have z3 := twoT_size (8 + (p.body.size : Int)).toNat
  have z5 := twoT_size c
  have hw8 : wordB (8 + (p.body.size : Int)) = true := wordB_iff.2 ⟨by omega, by omega⟩
  have H17 := hidS h17
  clear h17
  go_enter Tryz.func103, Tryz.ntmps103
  go_wp2_with fail
  refine (l02Two_of c _ rfl hc).mono ?_
  rintro e w1 ⟨rfl, hb1⟩
  have hP1 := (PkAt.new p w).later hb1
  have hB1 := hidS (((Below.refl w.heap.size w).alloc (Nat.le_refl _) _).trans (hb1.mono (by simp)))
  clear hb1
  have HP := hidS hP1
  obtain ⟨_, _, c2, c3, c4, c5, c6, c7, c8, c9⟩ := hP1
  go_wp2_with fail
  have hwz : IntKind.i64.wrap (8 + (p.body.size : Int)) = 8 + (p.body.size : Int) := IntWalk.i64_in _ (by omega)
  refine grow_kinds 19 [.is (.pointer (some ⟨w.heap.size, 3, none⟩)), .is (.int .i64 p.a), .is (.string (twoT p.a.toNat)), .is (.pointer (some ⟨w.heap.size, 4, none⟩)), .is (.int .i64 p.b), .is (.string (twoT p.b.toNat)), .is (.string (twoT p.a.toNat ++ (twoT p.b.toNat))), .is (.pointer (some ⟨w.heap.size, 9, none⟩)), .is (.string p.body), .is (.int .i64 (p.body.size : Int)), .is (.int .i64 (8 + (p.body.size : Int))), .is (.string (twoT (8 + (p.body.size : Int)).toNat)), .is (.string (twoT p.a.toNat ++ (twoT p.b.toNat) ++ (twoT (8 + (p.body.size : Int)).toNat))), .is (.string (twoT c)), .is (.string (twoT p.a.toNat ++ (twoT p.b.toNat) ++ (twoT (8 + (p.body.size : Int)).toNat) ++ (twoT c))), .is (.pointer (some ⟨w.heap.size, 9, none⟩)), .is (.string p.body), .is (.string (twoT p.a.toNat ++ (twoT p.b.toNat) ++ (twoT (8 + (p.body.size : Int)).toNat) ++ (twoT c) ++ p.body)), .is (.string (twoT p.a.toNat ++ (twoT p.b.toNat) ++ (twoT (8 + (p.body.size : Int)).toNat) ++ (twoT c) ++ p.body))] rfl (by kernel_rfl) (by kernel_rfl) ?steps ?fin
  case steps =>
    refine ⟨?_, ?_, ?_, ?_, ?_, ?_, ?_, ?_, ?_, ?_, ?_, ?_, ?_, ?_, ?_, ?_, ?_, ?_, ?_, trivial⟩
    · refine ⟨rfl, fun v W ρ hC hc hf hs hi hd => ?_⟩
      have t2 : ρ (.tmp 2) = .pointer (some ⟨w.heap.size, 0, none⟩) := hi 2 (by decide)
      simp [execOp, go_sem, t2]
      exact ⟨hC, Below.refl _ _, rfl⟩
    · refine ⟨rfl, fun v W ρ hC hc hf hs hi hd => ?_⟩
      have d0 : v 0 = .pointer (some ⟨w.heap.size, 3, none⟩) := hd _ (Array.mem_of_getElem? (i := 0) rfl) rfl
      have t42 : ρ (.tmp 42) = v 0 := hs 0 42 (by decide) rfl
      rw [d0] at t42
      have hp := HP.out.later hC
      obtain ⟨_, _, _, c3, c4, c5, c6, c7, c8, c9⟩ := hp
      simp [execOp, go_sem, t42, c3]
      exact ⟨hC, Below.refl _ _, rfl⟩
    · refine ⟨rfl, fun v W ρ hC hc hf hs hi hd => ?_⟩
      have d1 : v 1 = .int .i64 p.a := hd _ (Array.mem_of_getElem? (i := 0) rfl) rfl
      have t43 : ρ (.tmp 43) = v 1 := hs 1 43 (by decide) rfl
      rw [d1] at t43
      simp [execOp, go_sem, t43, hf]
      exact Calls.mono (l02Two_x _ _ (by assumption)) (fun e x h => ⟨_, h.1, hC.trans (h.2.mono hC.size), h.2, rfl⟩)
    · refine ⟨rfl, fun v W ρ hC hc hf hs hi hd => ?_⟩
      have t2 : ρ (.tmp 2) = .pointer (some ⟨w.heap.size, 0, none⟩) := hi 2 (by decide)
      simp [execOp, go_sem, t2]
      exact ⟨hC, Below.refl _ _, rfl⟩
    · refine ⟨rfl, fun v W ρ hC hc hf hs hi hd => ?_⟩
      have d3 : v 3 = .pointer (some ⟨w.heap.size, 4, none⟩) := hd _ (Array.mem_of_getElem? (i := 0) rfl) rfl
      have t45 : ρ (.tmp 45) = v 3 := hs 3 45 (by decide) rfl
      rw [d3] at t45
      have hp := HP.out.later hC
      obtain ⟨_, _, _, c3, c4, c5, c6, c7, c8, c9⟩ := hp
      simp [execOp, go_sem, t45, c4]
      exact ⟨hC, Below.refl _ _, rfl⟩
    · refine ⟨rfl, fun v W ρ hC hc hf hs hi hd => ?_⟩
      have d4 : v 4 = .int .i64 p.b := hd _ (Array.mem_of_getElem? (i := 0) rfl) rfl
      have t46 : ρ (.tmp 46) = v 4 := hs 4 46 (by decide) rfl
      rw [d4] at t46
      simp [execOp, go_sem, t46, hf]
      exact Calls.mono (l02Two_x _ _ (by assumption)) (fun e x h => ⟨_, h.1, hC.trans (h.2.mono hC.size), h.2, rfl⟩)
    · refine ⟨rfl, fun v W ρ hC hc hf hs hi hd => ?_⟩
      have d2 : v 2 = .string (twoT p.a.toNat) := hd _ (Array.mem_of_getElem? (i := 0) rfl) rfl
      have t44 : ρ (.tmp 44) = v 2 := hs 2 44 (by decide) rfl
      rw [d2] at t44
      have d5 : v 5 = .string (twoT p.b.toNat) := hd _ (Array.mem_of_getElem? (i := 1) rfl) rfl
      have t47 : ρ (.tmp 47) = v 5 := hs 5 47 (by decide) rfl
      rw [d5] at t47
      simp [execOp, go_sem, t44, t47]
      first | exact ⟨hC, Below.refl _ _, rfl⟩ | (rw [if_neg (by omega)]; exact ⟨hC, Below.refl _ _, rfl⟩)
    · refine ⟨rfl, fun v W ρ hC hc hf hs hi hd => ?_⟩
      have t2 : ρ (.tmp 2) = .pointer (some ⟨w.heap.size, 0, none⟩) := hi 2 (by decide)
      simp [execOp, go_sem, t2]
      exact ⟨hC, Below.refl _ _, rfl⟩
    · refine ⟨rfl, fun v W ρ hC hc hf hs hi hd => ?_⟩
      have d7 : v 7 = .pointer (some ⟨w.heap.size, 9, none⟩) := hd _ (Array.mem_of_getElem? (i := 0) rfl) rfl
      have t49 : ρ (.tmp 49) = v 7 := hs 7 49 (by decide) rfl
      rw [d7] at t49
      have hp := HP.out.later hC
      obtain ⟨_, _, _, c3, c4, c5, c6, c7, c8, c9⟩ := hp
      simp [execOp, go_sem, t49, c9]
      exact ⟨hC, Below.refl _ _, rfl⟩
    · refine ⟨rfl, fun v W ρ hC hc hf hs hi hd => ?_⟩
      have d8 : v 8 = .string p.body := hd _ (Array.mem_of_getElem? (i := 0) rfl) rfl
      have t50 : ρ (.tmp 50) = v 8 := hs 8 50 (by decide) rfl
      rw [d8] at t50
      simp [execOp, go_sem, t50]
      exact ⟨hC, Below.refl _ _, rfl⟩
    · refine ⟨rfl, fun v W ρ hC hc hf hs hi hd => ?_⟩
      have d9 : v 9 = .int .i64 (p.body.size : Int) := hd _ (Array.mem_of_getElem? (i := 0) rfl) rfl
      have t51 : ρ (.tmp 51) = v 9 := hs 9 51 (by decide) rfl
      rw [d9] at t51
      simp [execOp, go_sem, t51, hwz, hc]
      exact ⟨hC, Below.refl _ _, rfl⟩
    · refine ⟨rfl, fun v W ρ hC hc hf hs hi hd => ?_⟩
      have d10 : v 10 = .int .i64 (8 + (p.body.size : Int)) := hd _ (Array.mem_of_getElem? (i := 0) rfl) rfl
      have t52 : ρ (.tmp 52) = v 10 := hs 10 52 (by decide) rfl
      rw [d10] at t52
      simp [execOp, go_sem, t52, hf]
      exact Calls.mono (l02Two_x _ _ (by assumption)) (fun e x h => ⟨_, h.1, hC.trans (h.2.mono hC.size), h.2, rfl⟩)
    · refine ⟨rfl, fun v W ρ hC hc hf hs hi hd => ?_⟩
      have d6 : v 6 = .string (twoT p.a.toNat ++ (twoT p.b.toNat)) := hd _ (Array.mem_of_getElem? (i := 0) rfl) rfl
      have t48 : ρ (.tmp 48) = v 6 := hs 6 48 (by decide) rfl
      rw [d6] at t48
      have d11 : v 11 = .string (twoT (8 + (p.body.size : Int)).toNat) := hd _ (Array.mem_of_getElem? (i := 1) rfl) rfl
      have t53 : ρ (.tmp 53) = v 11 := hs 11 53 (by decide) rfl
      rw [d11] at t53
      simp [execOp, go_sem, t48, t53]
      first | exact ⟨hC, Below.refl _ _, rfl⟩ | (rw [if_neg (by omega)]; exact ⟨hC, Below.refl _ _, rfl⟩)
    · refine ⟨rfl, fun v W ρ hC hc hf hs hi hd => ?_⟩
      have t5 : ρ (.tmp 5) = .string (twoT c) := hi 5 (by decide)
      simp [execOp, go_sem, t5]
      exact ⟨hC, Below.refl _ _, rfl⟩
    · refine ⟨rfl, fun v W ρ hC hc hf hs hi hd => ?_⟩
      have d12 : v 12 = .string (twoT p.a.toNat ++ (twoT p.b.toNat) ++ (twoT (8 + (p.body.size : Int)).toNat)) := hd _ (Array.mem_of_getElem? (i := 0) rfl) rfl
      have t54 : ρ (.tmp 54) = v 12 := hs 12 54 (by decide) rfl
      rw [d12] at t54
      have d13 : v 13 = .string (twoT c) := hd _ (Array.mem_of_getElem? (i := 1) rfl) rfl
      have t55 : ρ (.tmp 55) = v 13 := hs 13 55 (by decide) rfl
      rw [d13] at t55
      simp [execOp, go_sem, t54, t55]
      first | exact ⟨hC, Below.refl _ _, rfl⟩ | (rw [if_neg (by omega)]; exact ⟨hC, Below.refl _ _, rfl⟩)
    · refine ⟨rfl, fun v W ρ hC hc hf hs hi hd => ?_⟩
      have t2 : ρ (.tmp 2) = .pointer (some ⟨w.heap.size, 0, none⟩) := hi 2 (by decide)
      simp [execOp, go_sem, t2]
      exact ⟨hC, Below.refl _ _, rfl⟩
    · refine ⟨rfl, fun v W ρ hC hc hf hs hi hd => ?_⟩
      have d15 : v 15 = .pointer (some ⟨w.heap.size, 9, none⟩) := hd _ (Array.mem_of_getElem? (i := 0) rfl) rfl
      have t57 : ρ (.tmp 57) = v 15 := hs 15 57 (by decide) rfl
      rw [d15] at t57
      have hp := HP.out.later hC
      obtain ⟨_, _, _, c3, c4, c5, c6, c7, c8, c9⟩ := hp
      simp [execOp, go_sem, t57, c9]
      exact ⟨hC, Below.refl _ _, rfl⟩
    · refine ⟨rfl, fun v W ρ hC hc hf hs hi hd => ?_⟩
      have d14 : v 14 = .string (twoT p.a.toNat ++ (twoT p.b.toNat) ++ (twoT (8 + (p.body.size : Int)).toNat) ++ (twoT c)) := hd _ (Array.mem_of_getElem? (i := 0) rfl) rfl
      have t56 : ρ (.tmp 56) = v 14 := hs 14 56 (by decide) rfl
      rw [d14] at t56
      have d16 : v 16 = .string p.body := hd _ (Array.mem_of_getElem? (i := 1) rfl) rfl
      have t58 : ρ (.tmp 58) = v 16 := hs 16 58 (by decide) rfl
      rw [d16] at t58
      simp [execOp, go_sem, t56, t58]
      first | exact ⟨hC, Below.refl _ _, rfl⟩ | (rw [if_neg (by omega)]; exact ⟨hC, Below.refl _ _, rfl⟩)
    · refine ⟨rfl, fun v W ρ hC hc hf hs hi hd => ?_⟩
      have d17 : v 17 = .string (twoT p.a.toNat ++ (twoT p.b.toNat) ++ (twoT (8 + (p.body.size : Int)).toNat) ++ (twoT c) ++ p.body) := hd _ (Array.mem_of_getElem? (i := 0) rfl) rfl
      have t59 : ρ (.tmp 59) = v 17 := hs 17 59 (by decide) rfl
      rw [d17] at t59
      simp [execOp, go_sem, t59]
      exact ⟨hC, Below.refl _ _, rfl⟩
  case fin =>
    intro v W hC hall
    have hL : v 18 = .string (twoT p.a.toNat ++ (twoT p.b.toNat) ++ (twoT (8 + (p.body.size : Int)).toNat) ++ (twoT c) ++ p.body) := hall 18 (by decide)
    simp [upto, Act.put]
    rw [hL]
    clear hall hL
    have hE := hidS (hB1.out.trans (hC.mono hB1.out.size))
    go_wp2
    go_ret
    exact ⟨by unfold tailT; rw [if_neg (by rw [H17.out]; decide), if_pos H17.out]; rfl, hE.out⟩

set_option maxHeartbeats 4000000 in
theorem l03Tail_err (p : Pk) (c : Nat) (w : World) (h1 : p.proto = 1) (hc : c ≤ 65535) (ha : wordB p.a = true) (hq : wordB p.seq = true) (hk1 : 0 ≤ p.kind) (hk2 : p.kind ≤ 255) (h3 : p.kind = 3) (hs : p.body.size ≤ 1000) :
    Calls Tryz.prog 103 #[.agg #[.int .i64 p.src, .int .i64 p.dst, .int .i64 p.proto, .int .i64 p.a, .int .i64 p.b, .int .i64 p.kind, .int .i64 p.flags, .int .i64 p.seq, .int .i64 p.ack, .string p.body], .int .i64 (c : Int)] w fun e w' => e = .returned (.string (tailT p c)) ∧ Below w.heap.size w w' := by
  have h6' : (p.proto == 6) = false := by rw [h1]; rfl
  have h17' : (p.proto == 17) = false := by rw [h1]; rfl
  have h3' : (p.kind == 3) = true := beq_iff_eq.2 h3
  have z1 := twoT_size p.a.toNat
  have z2 := twoT_size p.seq.toNat
  have z4 : (rowT [p.kind, 1]).size = 2 := rowT_size _
  have z5 := twoT_size c
  have H1 := hidS h1
  have H3 := hidS h3
  clear h1 h3
  go_enter Tryz.func103, Tryz.ntmps103
  go_wp2_with fail
  refine (l02Two_of c _ rfl hc).mono ?_
  rintro e w1 ⟨rfl, hb1⟩
  have hP1 := (PkAt.new p w).later hb1
  have hB1 := hidS (((Below.refl w.heap.size w).alloc (Nat.le_refl _) _).trans (hb1.mono (by simp)))
  clear hb1
  have HP := hidS hP1
  obtain ⟨_, _, c2, c3, c4, c5, c6, c7, c8, c9⟩ := hP1
  go_wp2_with fail
  have hwf : IntKind.u8.wrap p.kind = p.kind := IntWalk.u8_in _ (by omega)
  refine grow_kinds 20 [.is (.pointer (some ⟨w.heap.size, 5, none⟩)), .is (.int .i64 p.kind), .is (.int .u8 p.kind), .is (.int .u8 1), .row (rowL [p.kind, 1]), .is (.string (rowT [p.kind, 1])), .is (.string (twoT c)), .is (.string (rowT [p.kind, 1] ++ (twoT c))), .is (.pointer (some ⟨w.heap.size, 3, none⟩)), .is (.int .i64 p.a), .is (.string (twoT p.a.toNat)), .is (.string (rowT [p.kind, 1] ++ (twoT c) ++ (twoT p.a.toNat))), .is (.pointer (some ⟨w.heap.size, 7, none⟩)), .is (.int .i64 p.seq), .is (.string (twoT p.seq.toNat)), .is (.string (rowT [p.kind, 1] ++ (twoT c) ++ (twoT p.a.toNat) ++ (twoT p.seq.toNat))), .is (.pointer (some ⟨w.heap.size, 9, none⟩)), .is (.string p.body), .is (.string (rowT [p.kind, 1] ++ (twoT c) ++ (twoT p.a.toNat) ++ (twoT p.seq.toNat) ++ p.body)), .is (.string (rowT [p.kind, 1] ++ (twoT c) ++ (twoT p.a.toNat) ++ (twoT p.seq.toNat) ++ p.body))] rfl (by kernel_rfl) (by kernel_rfl) ?steps ?fin
  case steps =>
    refine ⟨?_, ?_, ?_, ?_, ?_, ?_, ?_, ?_, ?_, ?_, ?_, ?_, ?_, ?_, ?_, ?_, ?_, ?_, ?_, ?_, trivial⟩
    · refine ⟨rfl, fun v W ρ hC hc hf hs hi hd => ?_⟩
      have t2 : ρ (.tmp 2) = .pointer (some ⟨w.heap.size, 0, none⟩) := hi 2 (by decide)
      simp [execOp, go_sem, t2]
      exact ⟨hC, Below.refl _ _, rfl⟩
    · refine ⟨rfl, fun v W ρ hC hc hf hs hi hd => ?_⟩
      have d0 : v 0 = .pointer (some ⟨w.heap.size, 5, none⟩) := hd _ (Array.mem_of_getElem? (i := 0) rfl) rfl
      have t63 : ρ (.tmp 63) = v 0 := hs 0 63 (by decide) rfl
      rw [d0] at t63
      have hp := HP.out.later hC
      obtain ⟨_, _, _, c3, c4, c5, c6, c7, c8, c9⟩ := hp
      simp [execOp, go_sem, t63, c5]
      exact ⟨hC, Below.refl _ _, rfl⟩
    · refine ⟨rfl, fun v W ρ hC hc hf hs hi hd => ?_⟩
      have d1 : v 1 = .int .i64 p.kind := hd _ (Array.mem_of_getElem? (i := 0) rfl) rfl
      have t64 : ρ (.tmp 64) = v 1 := hs 1 64 (by decide) rfl
      rw [d1] at t64
      simp [execOp, go_sem, t64, hwf]
      exact ⟨hC, Below.refl _ _, rfl⟩
    · refine ⟨rfl, fun v W ρ hC hc hf hs hi hd => ?_⟩
      have t6 : ρ (.tmp 6) = .int .u8 1 := hi 6 (by decide)
      simp [execOp, go_sem, t6]
      exact ⟨hC, Below.refl _ _, rfl⟩
    · refine ⟨rfl, fun v W ρ hC hc hf hs hi hd => ?_⟩
      have d2 : v 2 = .int .u8 p.kind := hd _ (Array.mem_of_getElem? (i := 0) rfl) rfl
      have t65 : ρ (.tmp 65) = v 2 := hs 2 65 (by decide) rfl
      rw [d2] at t65
      have d3 : v 3 = .int .u8 1 := hd _ (Array.mem_of_getElem? (i := 1) rfl) rfl
      have t66 : ρ (.tmp 66) = v 3 := hs 3 66 (by decide) rfl
      rw [d3] at t66
      simp [execOp, go_sem, t65, t66]
      exact ⟨hC.alloc hC.size _, (Below.refl _ _).alloc (Nat.le_refl _) _, W.heap.size, rfl, row_at [p.kind, 1] (by simp; omega)⟩
    · refine ⟨rfl, fun v W ρ hC hc hf hs hi hd => ?_⟩
      obtain ⟨B4, e4, hB4⟩ : ∃ B, v 4 = .slice (some ⟨B, 0, none⟩) (rowL [p.kind, 1]).length (rowL [p.kind, 1]).length ∧ BytesAt B (rowL [p.kind, 1]) W := hd _ (Array.mem_of_getElem? (i := 0) rfl) rfl
      have t67 : ρ (.tmp 67) = v 4 := hs 4 67 (by decide) rfl
      rw [e4] at t67
      have hcv := BytesAt.conv (rowL [p.kind, 1]).length hB4
      simp [execOp, go_sem, t67, hcv]
      exact ⟨hC, Below.refl _ _, rfl⟩
    · refine ⟨rfl, fun v W ρ hC hc hf hs hi hd => ?_⟩
      have t5 : ρ (.tmp 5) = .string (twoT c) := hi 5 (by decide)
      simp [execOp, go_sem, t5]
      exact ⟨hC, Below.refl _ _, rfl⟩
    · refine ⟨rfl, fun v W ρ hC hc hf hs hi hd => ?_⟩
      have d5 : v 5 = .string (rowT [p.kind, 1]) := hd _ (Array.mem_of_getElem? (i := 0) rfl) rfl
      have t68 : ρ (.tmp 68) = v 5 := hs 5 68 (by decide) rfl
      rw [d5] at t68
      have d6 : v 6 = .string (twoT c) := hd _ (Array.mem_of_getElem? (i := 1) rfl) rfl
      have t69 : ρ (.tmp 69) = v 6 := hs 6 69 (by decide) rfl
      rw [d6] at t69
      simp [execOp, go_sem, t68, t69]
      first | exact ⟨hC, Below.refl _ _, rfl⟩ | (rw [if_neg (by omega)]; exact ⟨hC, Below.refl _ _, rfl⟩)
    · refine ⟨rfl, fun v W ρ hC hc hf hs hi hd => ?_⟩
      have t2 : ρ (.tmp 2) = .pointer (some ⟨w.heap.size, 0, none⟩) := hi 2 (by decide)
      simp [execOp, go_sem, t2]
      exact ⟨hC, Below.refl _ _, rfl⟩
    · refine ⟨rfl, fun v W ρ hC hc hf hs hi hd => ?_⟩
      have d8 : v 8 = .pointer (some ⟨w.heap.size, 3, none⟩) := hd _ (Array.mem_of_getElem? (i := 0) rfl) rfl
      have t71 : ρ (.tmp 71) = v 8 := hs 8 71 (by decide) rfl
      rw [d8] at t71
      have hp := HP.out.later hC
      obtain ⟨_, _, _, c3, c4, c5, c6, c7, c8, c9⟩ := hp
      simp [execOp, go_sem, t71, c3]
      exact ⟨hC, Below.refl _ _, rfl⟩
    · refine ⟨rfl, fun v W ρ hC hc hf hs hi hd => ?_⟩
      have d9 : v 9 = .int .i64 p.a := hd _ (Array.mem_of_getElem? (i := 0) rfl) rfl
      have t72 : ρ (.tmp 72) = v 9 := hs 9 72 (by decide) rfl
      rw [d9] at t72
      simp [execOp, go_sem, t72, hf]
      exact Calls.mono (l02Two_x _ _ (by assumption)) (fun e x h => ⟨_, h.1, hC.trans (h.2.mono hC.size), h.2, rfl⟩)
    · refine ⟨rfl, fun v W ρ hC hc hf hs hi hd => ?_⟩
      have d7 : v 7 = .string (rowT [p.kind, 1] ++ (twoT c)) := hd _ (Array.mem_of_getElem? (i := 0) rfl) rfl
      have t70 : ρ (.tmp 70) = v 7 := hs 7 70 (by decide) rfl
      rw [d7] at t70
      have d10 : v 10 = .string (twoT p.a.toNat) := hd _ (Array.mem_of_getElem? (i := 1) rfl) rfl
      have t73 : ρ (.tmp 73) = v 10 := hs 10 73 (by decide) rfl
      rw [d10] at t73
      simp [execOp, go_sem, t70, t73]
      first | exact ⟨hC, Below.refl _ _, rfl⟩ | (rw [if_neg (by omega)]; exact ⟨hC, Below.refl _ _, rfl⟩)
    · refine ⟨rfl, fun v W ρ hC hc hf hs hi hd => ?_⟩
      have t2 : ρ (.tmp 2) = .pointer (some ⟨w.heap.size, 0, none⟩) := hi 2 (by decide)
      simp [execOp, go_sem, t2]
      exact ⟨hC, Below.refl _ _, rfl⟩
    · refine ⟨rfl, fun v W ρ hC hc hf hs hi hd => ?_⟩
      have d12 : v 12 = .pointer (some ⟨w.heap.size, 7, none⟩) := hd _ (Array.mem_of_getElem? (i := 0) rfl) rfl
      have t75 : ρ (.tmp 75) = v 12 := hs 12 75 (by decide) rfl
      rw [d12] at t75
      have hp := HP.out.later hC
      obtain ⟨_, _, _, c3, c4, c5, c6, c7, c8, c9⟩ := hp
      simp [execOp, go_sem, t75, c7]
      exact ⟨hC, Below.refl _ _, rfl⟩
    · refine ⟨rfl, fun v W ρ hC hc hf hs hi hd => ?_⟩
      have d13 : v 13 = .int .i64 p.seq := hd _ (Array.mem_of_getElem? (i := 0) rfl) rfl
      have t76 : ρ (.tmp 76) = v 13 := hs 13 76 (by decide) rfl
      rw [d13] at t76
      simp [execOp, go_sem, t76, hf]
      exact Calls.mono (l02Two_x _ _ (by assumption)) (fun e x h => ⟨_, h.1, hC.trans (h.2.mono hC.size), h.2, rfl⟩)
    · refine ⟨rfl, fun v W ρ hC hc hf hs hi hd => ?_⟩
      have d11 : v 11 = .string (rowT [p.kind, 1] ++ (twoT c) ++ (twoT p.a.toNat)) := hd _ (Array.mem_of_getElem? (i := 0) rfl) rfl
      have t74 : ρ (.tmp 74) = v 11 := hs 11 74 (by decide) rfl
      rw [d11] at t74
      have d14 : v 14 = .string (twoT p.seq.toNat) := hd _ (Array.mem_of_getElem? (i := 1) rfl) rfl
      have t77 : ρ (.tmp 77) = v 14 := hs 14 77 (by decide) rfl
      rw [d14] at t77
      simp [execOp, go_sem, t74, t77]
      first | exact ⟨hC, Below.refl _ _, rfl⟩ | (rw [if_neg (by omega)]; exact ⟨hC, Below.refl _ _, rfl⟩)
    · refine ⟨rfl, fun v W ρ hC hc hf hs hi hd => ?_⟩
      have t2 : ρ (.tmp 2) = .pointer (some ⟨w.heap.size, 0, none⟩) := hi 2 (by decide)
      simp [execOp, go_sem, t2]
      exact ⟨hC, Below.refl _ _, rfl⟩
    · refine ⟨rfl, fun v W ρ hC hc hf hs hi hd => ?_⟩
      have d16 : v 16 = .pointer (some ⟨w.heap.size, 9, none⟩) := hd _ (Array.mem_of_getElem? (i := 0) rfl) rfl
      have t79 : ρ (.tmp 79) = v 16 := hs 16 79 (by decide) rfl
      rw [d16] at t79
      have hp := HP.out.later hC
      obtain ⟨_, _, _, c3, c4, c5, c6, c7, c8, c9⟩ := hp
      simp [execOp, go_sem, t79, c9]
      exact ⟨hC, Below.refl _ _, rfl⟩
    · refine ⟨rfl, fun v W ρ hC hc hf hs hi hd => ?_⟩
      have d15 : v 15 = .string (rowT [p.kind, 1] ++ (twoT c) ++ (twoT p.a.toNat) ++ (twoT p.seq.toNat)) := hd _ (Array.mem_of_getElem? (i := 0) rfl) rfl
      have t78 : ρ (.tmp 78) = v 15 := hs 15 78 (by decide) rfl
      rw [d15] at t78
      have d17 : v 17 = .string p.body := hd _ (Array.mem_of_getElem? (i := 1) rfl) rfl
      have t80 : ρ (.tmp 80) = v 17 := hs 17 80 (by decide) rfl
      rw [d17] at t80
      simp [execOp, go_sem, t78, t80]
      first | exact ⟨hC, Below.refl _ _, rfl⟩ | (rw [if_neg (by omega)]; exact ⟨hC, Below.refl _ _, rfl⟩)
    · refine ⟨rfl, fun v W ρ hC hc hf hs hi hd => ?_⟩
      have d18 : v 18 = .string (rowT [p.kind, 1] ++ (twoT c) ++ (twoT p.a.toNat) ++ (twoT p.seq.toNat) ++ p.body) := hd _ (Array.mem_of_getElem? (i := 0) rfl) rfl
      have t81 : ρ (.tmp 81) = v 18 := hs 18 81 (by decide) rfl
      rw [d18] at t81
      simp [execOp, go_sem, t81]
      exact ⟨hC, Below.refl _ _, rfl⟩
  case fin =>
    intro v W hC hall
    have hL : v 19 = .string (rowT [p.kind, 1] ++ (twoT c) ++ (twoT p.a.toNat) ++ (twoT p.seq.toNat) ++ p.body) := hall 19 (by decide)
    simp [upto, Act.put]
    rw [hL]
    clear hall hL
    have hE := hidS (hB1.out.trans (hC.mono hB1.out.size))
    go_wp2
    go_ret
    exact ⟨by unfold tailT; rw [if_neg (by rw [H1.out]; decide), if_neg (by rw [H1.out]; decide), if_pos H3.out]; rfl, hE.out⟩

set_option maxHeartbeats 4000000 in
theorem l03Tail_echo (p : Pk) (c : Nat) (w : World) (h1 : p.proto = 1) (hc : c ≤ 65535) (ha : wordB p.a = true) (hq : wordB p.seq = true) (hk1 : 0 ≤ p.kind) (hk2 : p.kind ≤ 255) (h3 : p.kind ≠ 3) (hs : p.body.size ≤ 1000) :
    Calls Tryz.prog 103 #[.agg #[.int .i64 p.src, .int .i64 p.dst, .int .i64 p.proto, .int .i64 p.a, .int .i64 p.b, .int .i64 p.kind, .int .i64 p.flags, .int .i64 p.seq, .int .i64 p.ack, .string p.body], .int .i64 (c : Int)] w fun e w' => e = .returned (.string (tailT p c)) ∧ Below w.heap.size w w' := by
  have h6' : (p.proto == 6) = false := by rw [h1]; rfl
  have h17' : (p.proto == 17) = false := by rw [h1]; rfl
  have h3' : (p.kind == 3) = false := beq_eq_false_iff_ne.2 h3
  have z1 := twoT_size p.a.toNat
  have z2 := twoT_size p.seq.toNat
  have z4 : (rowT [p.kind, 0]).size = 2 := rowT_size _
  have z5 := twoT_size c
  have H1 := hidS h1
  have H3 := hidS h3
  clear h1 h3
  go_enter Tryz.func103, Tryz.ntmps103
  go_wp2_with fail
  refine (l02Two_of c _ rfl hc).mono ?_
  rintro e w1 ⟨rfl, hb1⟩
  have hP1 := (PkAt.new p w).later hb1
  have hB1 := hidS (((Below.refl w.heap.size w).alloc (Nat.le_refl _) _).trans (hb1.mono (by simp)))
  clear hb1
  have HP := hidS hP1
  obtain ⟨_, _, c2, c3, c4, c5, c6, c7, c8, c9⟩ := hP1
  go_wp2_with fail
  have hwf : IntKind.u8.wrap p.kind = p.kind := IntWalk.u8_in _ (by omega)
  refine grow_kinds 20 [.is (.pointer (some ⟨w.heap.size, 5, none⟩)), .is (.int .i64 p.kind), .is (.int .u8 p.kind), .is (.int .u8 0), .row (rowL [p.kind, 0]), .is (.string (rowT [p.kind, 0])), .is (.string (twoT c)), .is (.string (rowT [p.kind, 0] ++ (twoT c))), .is (.pointer (some ⟨w.heap.size, 3, none⟩)), .is (.int .i64 p.a), .is (.string (twoT p.a.toNat)), .is (.string (rowT [p.kind, 0] ++ (twoT c) ++ (twoT p.a.toNat))), .is (.pointer (some ⟨w.heap.size, 7, none⟩)), .is (.int .i64 p.seq), .is (.string (twoT p.seq.toNat)), .is (.string (rowT [p.kind, 0] ++ (twoT c) ++ (twoT p.a.toNat) ++ (twoT p.seq.toNat))), .is (.pointer (some ⟨w.heap.size, 9, none⟩)), .is (.string p.body), .is (.string (rowT [p.kind, 0] ++ (twoT c) ++ (twoT p.a.toNat) ++ (twoT p.seq.toNat) ++ p.body)), .is (.string (rowT [p.kind, 0] ++ (twoT c) ++ (twoT p.a.toNat) ++ (twoT p.seq.toNat) ++ p.body))] rfl (by kernel_rfl) (by kernel_rfl) ?steps ?fin
  case steps =>
    refine ⟨?_, ?_, ?_, ?_, ?_, ?_, ?_, ?_, ?_, ?_, ?_, ?_, ?_, ?_, ?_, ?_, ?_, ?_, ?_, ?_, trivial⟩
    · refine ⟨rfl, fun v W ρ hC hc hf hs hi hd => ?_⟩
      have t2 : ρ (.tmp 2) = .pointer (some ⟨w.heap.size, 0, none⟩) := hi 2 (by decide)
      simp [execOp, go_sem, t2]
      exact ⟨hC, Below.refl _ _, rfl⟩
    · refine ⟨rfl, fun v W ρ hC hc hf hs hi hd => ?_⟩
      have d0 : v 0 = .pointer (some ⟨w.heap.size, 5, none⟩) := hd _ (Array.mem_of_getElem? (i := 0) rfl) rfl
      have t63 : ρ (.tmp 63) = v 0 := hs 0 63 (by decide) rfl
      rw [d0] at t63
      have hp := HP.out.later hC
      obtain ⟨_, _, _, c3, c4, c5, c6, c7, c8, c9⟩ := hp
      simp [execOp, go_sem, t63, c5]
      exact ⟨hC, Below.refl _ _, rfl⟩
    · refine ⟨rfl, fun v W ρ hC hc hf hs hi hd => ?_⟩
      have d1 : v 1 = .int .i64 p.kind := hd _ (Array.mem_of_getElem? (i := 0) rfl) rfl
      have t64 : ρ (.tmp 64) = v 1 := hs 1 64 (by decide) rfl
      rw [d1] at t64
      simp [execOp, go_sem, t64, hwf]
      exact ⟨hC, Below.refl _ _, rfl⟩
    · refine ⟨rfl, fun v W ρ hC hc hf hs hi hd => ?_⟩
      have t6 : ρ (.tmp 6) = .int .u8 0 := hi 6 (by decide)
      simp [execOp, go_sem, t6]
      exact ⟨hC, Below.refl _ _, rfl⟩
    · refine ⟨rfl, fun v W ρ hC hc hf hs hi hd => ?_⟩
      have d2 : v 2 = .int .u8 p.kind := hd _ (Array.mem_of_getElem? (i := 0) rfl) rfl
      have t65 : ρ (.tmp 65) = v 2 := hs 2 65 (by decide) rfl
      rw [d2] at t65
      have d3 : v 3 = .int .u8 0 := hd _ (Array.mem_of_getElem? (i := 1) rfl) rfl
      have t66 : ρ (.tmp 66) = v 3 := hs 3 66 (by decide) rfl
      rw [d3] at t66
      simp [execOp, go_sem, t65, t66]
      exact ⟨hC.alloc hC.size _, (Below.refl _ _).alloc (Nat.le_refl _) _, W.heap.size, rfl, row_at [p.kind, 0] (by simp; omega)⟩
    · refine ⟨rfl, fun v W ρ hC hc hf hs hi hd => ?_⟩
      obtain ⟨B4, e4, hB4⟩ : ∃ B, v 4 = .slice (some ⟨B, 0, none⟩) (rowL [p.kind, 0]).length (rowL [p.kind, 0]).length ∧ BytesAt B (rowL [p.kind, 0]) W := hd _ (Array.mem_of_getElem? (i := 0) rfl) rfl
      have t67 : ρ (.tmp 67) = v 4 := hs 4 67 (by decide) rfl
      rw [e4] at t67
      have hcv := BytesAt.conv (rowL [p.kind, 0]).length hB4
      simp [execOp, go_sem, t67, hcv]
      exact ⟨hC, Below.refl _ _, rfl⟩
    · refine ⟨rfl, fun v W ρ hC hc hf hs hi hd => ?_⟩
      have t5 : ρ (.tmp 5) = .string (twoT c) := hi 5 (by decide)
      simp [execOp, go_sem, t5]
      exact ⟨hC, Below.refl _ _, rfl⟩
    · refine ⟨rfl, fun v W ρ hC hc hf hs hi hd => ?_⟩
      have d5 : v 5 = .string (rowT [p.kind, 0]) := hd _ (Array.mem_of_getElem? (i := 0) rfl) rfl
      have t68 : ρ (.tmp 68) = v 5 := hs 5 68 (by decide) rfl
      rw [d5] at t68
      have d6 : v 6 = .string (twoT c) := hd _ (Array.mem_of_getElem? (i := 1) rfl) rfl
      have t69 : ρ (.tmp 69) = v 6 := hs 6 69 (by decide) rfl
      rw [d6] at t69
      simp [execOp, go_sem, t68, t69]
      first | exact ⟨hC, Below.refl _ _, rfl⟩ | (rw [if_neg (by omega)]; exact ⟨hC, Below.refl _ _, rfl⟩)
    · refine ⟨rfl, fun v W ρ hC hc hf hs hi hd => ?_⟩
      have t2 : ρ (.tmp 2) = .pointer (some ⟨w.heap.size, 0, none⟩) := hi 2 (by decide)
      simp [execOp, go_sem, t2]
      exact ⟨hC, Below.refl _ _, rfl⟩
    · refine ⟨rfl, fun v W ρ hC hc hf hs hi hd => ?_⟩
      have d8 : v 8 = .pointer (some ⟨w.heap.size, 3, none⟩) := hd _ (Array.mem_of_getElem? (i := 0) rfl) rfl
      have t71 : ρ (.tmp 71) = v 8 := hs 8 71 (by decide) rfl
      rw [d8] at t71
      have hp := HP.out.later hC
      obtain ⟨_, _, _, c3, c4, c5, c6, c7, c8, c9⟩ := hp
      simp [execOp, go_sem, t71, c3]
      exact ⟨hC, Below.refl _ _, rfl⟩
    · refine ⟨rfl, fun v W ρ hC hc hf hs hi hd => ?_⟩
      have d9 : v 9 = .int .i64 p.a := hd _ (Array.mem_of_getElem? (i := 0) rfl) rfl
      have t72 : ρ (.tmp 72) = v 9 := hs 9 72 (by decide) rfl
      rw [d9] at t72
      simp [execOp, go_sem, t72, hf]
      exact Calls.mono (l02Two_x _ _ (by assumption)) (fun e x h => ⟨_, h.1, hC.trans (h.2.mono hC.size), h.2, rfl⟩)
    · refine ⟨rfl, fun v W ρ hC hc hf hs hi hd => ?_⟩
      have d7 : v 7 = .string (rowT [p.kind, 0] ++ (twoT c)) := hd _ (Array.mem_of_getElem? (i := 0) rfl) rfl
      have t70 : ρ (.tmp 70) = v 7 := hs 7 70 (by decide) rfl
      rw [d7] at t70
      have d10 : v 10 = .string (twoT p.a.toNat) := hd _ (Array.mem_of_getElem? (i := 1) rfl) rfl
      have t73 : ρ (.tmp 73) = v 10 := hs 10 73 (by decide) rfl
      rw [d10] at t73
      simp [execOp, go_sem, t70, t73]
      first | exact ⟨hC, Below.refl _ _, rfl⟩ | (rw [if_neg (by omega)]; exact ⟨hC, Below.refl _ _, rfl⟩)
    · refine ⟨rfl, fun v W ρ hC hc hf hs hi hd => ?_⟩
      have t2 : ρ (.tmp 2) = .pointer (some ⟨w.heap.size, 0, none⟩) := hi 2 (by decide)
      simp [execOp, go_sem, t2]
      exact ⟨hC, Below.refl _ _, rfl⟩
    · refine ⟨rfl, fun v W ρ hC hc hf hs hi hd => ?_⟩
      have d12 : v 12 = .pointer (some ⟨w.heap.size, 7, none⟩) := hd _ (Array.mem_of_getElem? (i := 0) rfl) rfl
      have t75 : ρ (.tmp 75) = v 12 := hs 12 75 (by decide) rfl
      rw [d12] at t75
      have hp := HP.out.later hC
      obtain ⟨_, _, _, c3, c4, c5, c6, c7, c8, c9⟩ := hp
      simp [execOp, go_sem, t75, c7]
      exact ⟨hC, Below.refl _ _, rfl⟩
    · refine ⟨rfl, fun v W ρ hC hc hf hs hi hd => ?_⟩
      have d13 : v 13 = .int .i64 p.seq := hd _ (Array.mem_of_getElem? (i := 0) rfl) rfl
      have t76 : ρ (.tmp 76) = v 13 := hs 13 76 (by decide) rfl
      rw [d13] at t76
      simp [execOp, go_sem, t76, hf]
      exact Calls.mono (l02Two_x _ _ (by assumption)) (fun e x h => ⟨_, h.1, hC.trans (h.2.mono hC.size), h.2, rfl⟩)
    · refine ⟨rfl, fun v W ρ hC hc hf hs hi hd => ?_⟩
      have d11 : v 11 = .string (rowT [p.kind, 0] ++ (twoT c) ++ (twoT p.a.toNat)) := hd _ (Array.mem_of_getElem? (i := 0) rfl) rfl
      have t74 : ρ (.tmp 74) = v 11 := hs 11 74 (by decide) rfl
      rw [d11] at t74
      have d14 : v 14 = .string (twoT p.seq.toNat) := hd _ (Array.mem_of_getElem? (i := 1) rfl) rfl
      have t77 : ρ (.tmp 77) = v 14 := hs 14 77 (by decide) rfl
      rw [d14] at t77
      simp [execOp, go_sem, t74, t77]
      first | exact ⟨hC, Below.refl _ _, rfl⟩ | (rw [if_neg (by omega)]; exact ⟨hC, Below.refl _ _, rfl⟩)
    · refine ⟨rfl, fun v W ρ hC hc hf hs hi hd => ?_⟩
      have t2 : ρ (.tmp 2) = .pointer (some ⟨w.heap.size, 0, none⟩) := hi 2 (by decide)
      simp [execOp, go_sem, t2]
      exact ⟨hC, Below.refl _ _, rfl⟩
    · refine ⟨rfl, fun v W ρ hC hc hf hs hi hd => ?_⟩
      have d16 : v 16 = .pointer (some ⟨w.heap.size, 9, none⟩) := hd _ (Array.mem_of_getElem? (i := 0) rfl) rfl
      have t79 : ρ (.tmp 79) = v 16 := hs 16 79 (by decide) rfl
      rw [d16] at t79
      have hp := HP.out.later hC
      obtain ⟨_, _, _, c3, c4, c5, c6, c7, c8, c9⟩ := hp
      simp [execOp, go_sem, t79, c9]
      exact ⟨hC, Below.refl _ _, rfl⟩
    · refine ⟨rfl, fun v W ρ hC hc hf hs hi hd => ?_⟩
      have d15 : v 15 = .string (rowT [p.kind, 0] ++ (twoT c) ++ (twoT p.a.toNat) ++ (twoT p.seq.toNat)) := hd _ (Array.mem_of_getElem? (i := 0) rfl) rfl
      have t78 : ρ (.tmp 78) = v 15 := hs 15 78 (by decide) rfl
      rw [d15] at t78
      have d17 : v 17 = .string p.body := hd _ (Array.mem_of_getElem? (i := 1) rfl) rfl
      have t80 : ρ (.tmp 80) = v 17 := hs 17 80 (by decide) rfl
      rw [d17] at t80
      simp [execOp, go_sem, t78, t80]
      first | exact ⟨hC, Below.refl _ _, rfl⟩ | (rw [if_neg (by omega)]; exact ⟨hC, Below.refl _ _, rfl⟩)
    · refine ⟨rfl, fun v W ρ hC hc hf hs hi hd => ?_⟩
      have d18 : v 18 = .string (rowT [p.kind, 0] ++ (twoT c) ++ (twoT p.a.toNat) ++ (twoT p.seq.toNat) ++ p.body) := hd _ (Array.mem_of_getElem? (i := 0) rfl) rfl
      have t81 : ρ (.tmp 81) = v 18 := hs 18 81 (by decide) rfl
      rw [d18] at t81
      simp [execOp, go_sem, t81]
      exact ⟨hC, Below.refl _ _, rfl⟩
  case fin =>
    intro v W hC hall
    have hL : v 19 = .string (rowT [p.kind, 0] ++ (twoT c) ++ (twoT p.a.toNat) ++ (twoT p.seq.toNat) ++ p.body) := hall 19 (by decide)
    simp [upto, Act.put]
    rw [hL]
    clear hall hL
    have hE := hidS (hB1.out.trans (hC.mono hB1.out.size))
    go_wp2
    go_ret
    exact ⟨by unfold tailT; rw [if_neg (by rw [H1.out]; decide), if_neg (by rw [H1.out]; decide), if_neg H3.out]; rfl, hE.out⟩
end Go.Proofs.YtedknnkdnccfmaaGreatDoor
