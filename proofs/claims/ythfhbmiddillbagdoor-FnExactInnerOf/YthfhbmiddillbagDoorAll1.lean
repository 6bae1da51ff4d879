/- Proved here: spec.l03Tail answers what is behind the head of a packet; all old memory stays (condition: the packet's numbers are within their bounds). · Proved here: spec.l03Tail answers what is behind the head of a right packet (no conditions but that it is right, and a check is a word). · Proved here: spec.l03Head answers the head of a packet; all old memory stays (conditions: its addresses, its protocol's byte, a check are within their bounds, at most 1000 bytes behind it). · Proved here: what SumOf answers, of impl and of spec, and of impl.sumTexts of several texts: the words added up and folded; all old memory stays (conditions: a string is one; of sumTexts: at most 1000 texts of at most 100000 bytes). · Proved here: what CheckOf answers, of impl and of spec; all old memory stays (condition: a string is one). · Proved here: spec.l03Check answers the check of what is behind a right packet's head; all old memory stays (condition: its numbers are within their bounds). · Proved here: spec.l03Bytes answers a right packet's bytes; all old memory stays (condition: its numbers are within their bounds). · Proved here: spec.l02Is and spec.l02Word answer whether a number lies there, and leave memory alone (no conditions). -/
import Derived.Test.YthfhbmiddillbagDoorAll0
section
namespace Go.Proofs.YthfhbmiddillbagDoor
open Go.ChangeShapes Go.WideShapes Go.ChangeAt Go.RowKit
open Go.ChangeMaps (open_string shut_string)
set_option linter.unusedVariables false
set_option maxRecDepth 100000
set_option linter.unusedSimpArgs false

/-- what is behind the head, with a check -/
def tailT (p : Pk) (c : Nat) : ByteArray :=
  if p.proto = 6 then twoT p.a.toNat ++ twoT p.b.toNat ++ fourT p.seq.toNat ++ fourT p.ack.toNat ++ rowT [80, p.flags, 32, 0] ++ twoT c ++ ⟨#[0, 0]⟩ ++ p.body
  else if p.proto = 17 then twoT p.a.toNat ++ twoT p.b.toNat ++ twoT (8 + (p.body.size : Int)).toNat ++ twoT c ++ p.body
  else if p.kind = 3 then rowT [p.kind, 1] ++ twoT c ++ twoT p.a.toNat ++ twoT p.seq.toNat ++ p.body
  else rowT [p.kind, 0] ++ twoT c ++ twoT p.a.toNat ++ twoT p.seq.toNat ++ p.body
/-- a packet that lies in a block -/
def PkAt (g : Nat) (p : Pk) (W : World) : Prop := W.cell? ⟨g, 0, none⟩ = some (.int .i64 p.src) ∧ W.cell? ⟨g, 1, none⟩ = some (.int .i64 p.dst) ∧ W.cell? ⟨g, 2, none⟩ = some (.int .i64 p.proto) ∧ W.cell? ⟨g, 3, none⟩ = some (.int .i64 p.a) ∧ W.cell? ⟨g, 4, none⟩ = some (.int .i64 p.b) ∧
  W.cell? ⟨g, 5, none⟩ = some (.int .i64 p.kind) ∧ W.cell? ⟨g, 6, none⟩ = some (.int .i64 p.flags) ∧ W.cell? ⟨g, 7, none⟩ = some (.int .i64 p.seq) ∧ W.cell? ⟨g, 8, none⟩ = some (.int .i64 p.ack) ∧ W.cell? ⟨g, 9, none⟩ = some (.string p.body)
theorem PkAt.lt {g : Nat} {p : Pk} {W : World} (h : PkAt g p W) : g < W.heap.size := World.block_lt_of_cell? W ⟨g, 0, none⟩ h.1
theorem PkAt.later {g : Nat} {p : Pk} {W W' : World} (h : PkAt g p W) (hb : Below W.heap.size W W') : PkAt g p W' := by
  have hl := h.lt
  obtain ⟨h0, h1, h2, h3, h4, h5, h6, h7, h8, h9⟩ := h
  have k : ∀ o, W'.cell? ⟨g, o, none⟩ = W.cell? ⟨g, o, none⟩ := fun o => hb.cell (p := ⟨g, o, none⟩) hl
  exact ⟨(k 0).trans h0, (k 1).trans h1, (k 2).trans h2, (k 3).trans h3, (k 4).trans h4, (k 5).trans h5, (k 6).trans h6, (k 7).trans h7, (k 8).trans h8, (k 9).trans h9⟩
theorem PkAt.new (p : Pk) (W : World) : PkAt W.heap.size p (W.alloc (.cells #[.int .i64 p.src, .int .i64 p.dst, .int .i64 p.proto, .int .i64 p.a, .int .i64 p.b, .int .i64 p.kind, .int .i64 p.flags, .int .i64 p.seq, .int .i64 p.ack, .string p.body] 30)) := by
  simp [PkAt]

set_option maxHeartbeats 4000000 in
theorem l03Tail_tcp (p : Pk) (c : Nat) (w : World) (h6 : p.proto = 6) (hc : c ≤ 65535) (ha : wordB p.a = true) (hb : wordB p.b = true) (hf : flagB p.flags = true) (hq : addrB p.seq = true) (hk : addrB p.ack = true) (hs : p.body.size ≤ 1000) :
    Calls Tryd.prog 39 #[.agg #[.int .i64 p.src, .int .i64 p.dst, .int .i64 p.proto, .int .i64 p.a, .int .i64 p.b, .int .i64 p.kind, .int .i64 p.flags, .int .i64 p.seq, .int .i64 p.ack, .string p.body], .int .i64 (c : Int)] w fun e w' => e = .returned (.string (tailT p c)) ∧ Below w.heap.size w w' := by
  have h6' : (p.proto == 6) = true := beq_iff_eq.2 h6
  have z1 := twoT_size p.a.toNat
  have z2 := twoT_size p.b.toNat
  have z3 := fourT_size p.seq.toNat
  have z4 := fourT_size p.ack.toNat
  have z5 := twoT_size c
  have z6 : (rowT [80, p.flags, 32, 0]).size = 4 := rowT_size _
  have hf1 := (flagB_iff.1 hf).1
  have hf2 := (flagB_iff.1 hf).2
  have H6 := hidS h6
  clear hf h6
  go_enter Tryd.func39, Tryd.ntmps39
  go_wp2_with fail
  refine (l02Two_of c _ rfl hc).mono ?_
  rintro e w1 ⟨rfl, hb1⟩
  have hP1 := (PkAt.new p w).later hb1
  have hB1 := hidS (((Below.refl w.heap.size w).alloc (Nat.le_refl _) _).trans (hb1.mono (by simp)))
  clear hb1
  have HP := hidS hP1
  obtain ⟨_, _, c2, c3, c4, c5, c6, c7, c8, c9⟩ := hP1
  go_wp2_with fail
  have hwf : IntKind.u8.wrap p.flags = p.flags := IntWalk.u8_in _ (by omega)
  refine grow_kinds 28 [.is (.pointer (some ⟨w.heap.size, 3, none⟩)), .is (.int .i64 p.a), .is (.string (twoT p.a.toNat)), .is (.pointer (some ⟨w.heap.size, 4, none⟩)), .is (.int .i64 p.b), .is (.string (twoT p.b.toNat)), .is (.string (twoT p.a.toNat ++ (twoT p.b.toNat))), .is (.pointer (some ⟨w.heap.size, 7, none⟩)), .is (.int .i64 p.seq), .is (.string (fourT p.seq.toNat)), .is (.string (twoT p.a.toNat ++ (twoT p.b.toNat) ++ (fourT p.seq.toNat))), .is (.pointer (some ⟨w.heap.size, 8, none⟩)), .is (.int .i64 p.ack), .is (.string (fourT p.ack.toNat)), .is (.string (twoT p.a.toNat ++ (twoT p.b.toNat) ++ (fourT p.seq.toNat) ++ (fourT p.ack.toNat))), .is (.pointer (some ⟨w.heap.size, 6, none⟩)), .is (.int .i64 p.flags), .is (.int .u8 p.flags), .row (rowL [80, p.flags, 32, 0]), .is (.string (rowT [80, p.flags, 32, 0])), .is (.string (twoT p.a.toNat ++ (twoT p.b.toNat) ++ (fourT p.seq.toNat) ++ (fourT p.ack.toNat) ++ (rowT [80, p.flags, 32, 0]))), .is (.string (twoT c)), .is (.string (twoT p.a.toNat ++ (twoT p.b.toNat) ++ (fourT p.seq.toNat) ++ (fourT p.ack.toNat) ++ (rowT [80, p.flags, 32, 0]) ++ (twoT c))), .is (.string (twoT p.a.toNat ++ (twoT p.b.toNat) ++ (fourT p.seq.toNat) ++ (fourT p.ack.toNat) ++ (rowT [80, p.flags, 32, 0]) ++ (twoT c) ++ ⟨#[0, 0]⟩)), .is (.pointer (some ⟨w.heap.size, 9, none⟩)), .is (.string p.body), .is (.string (twoT p.a.toNat ++ (twoT p.b.toNat) ++ (fourT p.seq.toNat) ++ (fourT p.ack.toNat) ++ (rowT [80, p.flags, 32, 0]) ++ (twoT c) ++ ⟨#[0, 0]⟩ ++ p.body)), .is (.string (twoT p.a.toNat ++ (twoT p.b.toNat) ++ (fourT p.seq.toNat) ++ (fourT p.ack.toNat) ++ (rowT [80, p.flags, 32, 0]) ++ (twoT c) ++ ⟨#[0, 0]⟩ ++ p.body))] rfl (by kernel_rfl) (by kernel_rfl) ?steps ?fin
  case steps =>
    refine ⟨?_, ?_, ?_, ?_, ?_, ?_, ?_, ?_, ?_, ?_, ?_, ?_, ?_, ?_, ?_, ?_, ?_, ?_, ?_, ?_, ?_, ?_, ?_, ?_, ?_, ?_, ?_, ?_, trivial⟩
    · refine ⟨rfl, fun v W ρ hC hc hf hs hi hd => ?_⟩
      have t2 : ρ (.tmp 2) = .pointer (some ⟨w.heap.size, 0, none⟩) := hi 2 (by decide)
      simp [execOp, go_sem, t2]
      exact ⟨hC, Below.refl _ _, rfl⟩
    · refine ⟨rfl, fun v W ρ hC hc hf hs hi hd => ?_⟩
      have d0 : v 0 = .pointer (some ⟨w.heap.size, 3, none⟩) := hd _ (Array.mem_of_getElem? (i := 0) rfl) rfl
      have t13 : ρ (.tmp 13) = v 0 := hs 0 13 (by decide) rfl
      rw [d0] at t13
      have hp := HP.out.later hC
      obtain ⟨_, _, _, c3, c4, c5, c6, c7, c8, c9⟩ := hp
      simp [execOp, go_sem, t13, c3]
      exact ⟨hC, Below.refl _ _, rfl⟩
    · refine ⟨rfl, fun v W ρ hC hc hf hs hi hd => ?_⟩
      have d1 : v 1 = .int .i64 p.a := hd _ (Array.mem_of_getElem? (i := 0) rfl) rfl
      have t14 : ρ (.tmp 14) = v 1 := hs 1 14 (by decide) rfl
      rw [d1] at t14
      simp [execOp, go_sem, t14, hf]
      exact Calls.mono (l02Two_x _ _ (by assumption)) (fun e x h => ⟨_, h.1, hC.trans (h.2.mono hC.size), h.2, rfl⟩)
    · refine ⟨rfl, fun v W ρ hC hc hf hs hi hd => ?_⟩
      have t2 : ρ (.tmp 2) = .pointer (some ⟨w.heap.size, 0, none⟩) := hi 2 (by decide)
      simp [execOp, go_sem, t2]
      exact ⟨hC, Below.refl _ _, rfl⟩
    · refine ⟨rfl, fun v W ρ hC hc hf hs hi hd => ?_⟩
      have d3 : v 3 = .pointer (some ⟨w.heap.size, 4, none⟩) := hd _ (Array.mem_of_getElem? (i := 0) rfl) rfl
      have t16 : ρ (.tmp 16) = v 3 := hs 3 16 (by decide) rfl
      rw [d3] at t16
      have hp := HP.out.later hC
      obtain ⟨_, _, _, c3, c4, c5, c6, c7, c8, c9⟩ := hp
      simp [execOp, go_sem, t16, c4]
      exact ⟨hC, Below.refl _ _, rfl⟩
    · refine ⟨rfl, fun v W ρ hC hc hf hs hi hd => ?_⟩
      have d4 : v 4 = .int .i64 p.b := hd _ (Array.mem_of_getElem? (i := 0) rfl) rfl
      have t17 : ρ (.tmp 17) = v 4 := hs 4 17 (by decide) rfl
      rw [d4] at t17
      simp [execOp, go_sem, t17, hf]
      exact Calls.mono (l02Two_x _ _ (by assumption)) (fun e x h => ⟨_, h.1, hC.trans (h.2.mono hC.size), h.2, rfl⟩)
    · refine ⟨rfl, fun v W ρ hC hc hf hs hi hd => ?_⟩
      have d2 : v 2 = .string (twoT p.a.toNat) := hd _ (Array.mem_of_getElem? (i := 0) rfl) rfl
      have t15 : ρ (.tmp 15) = v 2 := hs 2 15 (by decide) rfl
      rw [d2] at t15
      have d5 : v 5 = .string (twoT p.b.toNat) := hd _ (Array.mem_of_getElem? (i := 1) rfl) rfl
      have t18 : ρ (.tmp 18) = v 5 := hs 5 18 (by decide) rfl
      rw [d5] at t18
      simp [execOp, go_sem, t15, t18]
      first | exact ⟨hC, Below.refl _ _, rfl⟩ | (rw [if_neg (by omega)]; exact ⟨hC, Below.refl _ _, rfl⟩)
    · refine ⟨rfl, fun v W ρ hC hc hf hs hi hd => ?_⟩
      have t2 : ρ (.tmp 2) = .pointer (some ⟨w.heap.size, 0, none⟩) := hi 2 (by decide)
      simp [execOp, go_sem, t2]
      exact ⟨hC, Below.refl _ _, rfl⟩
    · refine ⟨rfl, fun v W ρ hC hc hf hs hi hd => ?_⟩
      have d7 : v 7 = .pointer (some ⟨w.heap.size, 7, none⟩) := hd _ (Array.mem_of_getElem? (i := 0) rfl) rfl
      have t20 : ρ (.tmp 20) = v 7 := hs 7 20 (by decide) rfl
      rw [d7] at t20
      have hp := HP.out.later hC
      obtain ⟨_, _, _, c3, c4, c5, c6, c7, c8, c9⟩ := hp
      simp [execOp, go_sem, t20, c7]
      exact ⟨hC, Below.refl _ _, rfl⟩
    · refine ⟨rfl, fun v W ρ hC hc hf hs hi hd => ?_⟩
      have d8 : v 8 = .int .i64 p.seq := hd _ (Array.mem_of_getElem? (i := 0) rfl) rfl
      have t21 : ρ (.tmp 21) = v 8 := hs 8 21 (by decide) rfl
      rw [d8] at t21
      simp [execOp, go_sem, t21, hf]
      exact Calls.mono (l03Four_x _ _ (by assumption)) (fun e x h => ⟨_, h.1, hC.trans (h.2.mono hC.size), h.2, rfl⟩)
    · refine ⟨rfl, fun v W ρ hC hc hf hs hi hd => ?_⟩
      have d6 : v 6 = .string (twoT p.a.toNat ++ (twoT p.b.toNat)) := hd _ (Array.mem_of_getElem? (i := 0) rfl) rfl
      have t19 : ρ (.tmp 19) = v 6 := hs 6 19 (by decide) rfl
      rw [d6] at t19
      have d9 : v 9 = .string (fourT p.seq.toNat) := hd _ (Array.mem_of_getElem? (i := 1) rfl) rfl
      have t22 : ρ (.tmp 22) = v 9 := hs 9 22 (by decide) rfl
      rw [d9] at t22
      simp [execOp, go_sem, t19, t22]
      first | exact ⟨hC, Below.refl _ _, rfl⟩ | (rw [if_neg (by omega)]; exact ⟨hC, Below.refl _ _, rfl⟩)
    · refine ⟨rfl, fun v W ρ hC hc hf hs hi hd => ?_⟩
      have t2 : ρ (.tmp 2) = .pointer (some ⟨w.heap.size, 0, none⟩) := hi 2 (by decide)
      simp [execOp, go_sem, t2]
      exact ⟨hC, Below.refl _ _, rfl⟩
    · refine ⟨rfl, fun v W ρ hC hc hf hs hi hd => ?_⟩
      have d11 : v 11 = .pointer (some ⟨w.heap.size, 8, none⟩) := hd _ (Array.mem_of_getElem? (i := 0) rfl) rfl
      have t24 : ρ (.tmp 24) = v 11 := hs 11 24 (by decide) rfl
      rw [d11] at t24
      have hp := HP.out.later hC
      obtain ⟨_, _, _, c3, c4, c5, c6, c7, c8, c9⟩ := hp
      simp [execOp, go_sem, t24, c8]
      exact ⟨hC, Below.refl _ _, rfl⟩
    · refine ⟨rfl, fun v W ρ hC hc hf hs hi hd => ?_⟩
      have d12 : v 12 = .int .i64 p.ack := hd _ (Array.mem_of_getElem? (i := 0) rfl) rfl
      have t25 : ρ (.tmp 25) = v 12 := hs 12 25 (by decide) rfl
      rw [d12] at t25
      simp [execOp, go_sem, t25, hf]
      exact Calls.mono (l03Four_x _ _ (by assumption)) (fun e x h => ⟨_, h.1, hC.trans (h.2.mono hC.size), h.2, rfl⟩)
    · refine ⟨rfl, fun v W ρ hC hc hf hs hi hd => ?_⟩
      have d10 : v 10 = .string (twoT p.a.toNat ++ (twoT p.b.toNat) ++ (fourT p.seq.toNat)) := hd _ (Array.mem_of_getElem? (i := 0) rfl) rfl
      have t23 : ρ (.tmp 23) = v 10 := hs 10 23 (by decide) rfl
      rw [d10] at t23
      have d13 : v 13 = .string (fourT p.ack.toNat) := hd _ (Array.mem_of_getElem? (i := 1) rfl) rfl
      have t26 : ρ (.tmp 26) = v 13 := hs 13 26 (by decide) rfl
      rw [d13] at t26
      simp [execOp, go_sem, t23, t26]
      first | exact ⟨hC, Below.refl _ _, rfl⟩ | (rw [if_neg (by omega)]; exact ⟨hC, Below.refl _ _, rfl⟩)
    · refine ⟨rfl, fun v W ρ hC hc hf hs hi hd => ?_⟩
      have t2 : ρ (.tmp 2) = .pointer (some ⟨w.heap.size, 0, none⟩) := hi 2 (by decide)
      simp [execOp, go_sem, t2]
      exact ⟨hC, Below.refl _ _, rfl⟩
    · refine ⟨rfl, fun v W ρ hC hc hf hs hi hd => ?_⟩
      have d15 : v 15 = .pointer (some ⟨w.heap.size, 6, none⟩) := hd _ (Array.mem_of_getElem? (i := 0) rfl) rfl
      have t28 : ρ (.tmp 28) = v 15 := hs 15 28 (by decide) rfl
      rw [d15] at t28
      have hp := HP.out.later hC
      obtain ⟨_, _, _, c3, c4, c5, c6, c7, c8, c9⟩ := hp
      simp [execOp, go_sem, t28, c6]
      exact ⟨hC, Below.refl _ _, rfl⟩
    · refine ⟨rfl, fun v W ρ hC hc hf hs hi hd => ?_⟩
      have d16 : v 16 = .int .i64 p.flags := hd _ (Array.mem_of_getElem? (i := 0) rfl) rfl
      have t29 : ρ (.tmp 29) = v 16 := hs 16 29 (by decide) rfl
      rw [d16] at t29
      simp [execOp, go_sem, t29, hwf]
      exact ⟨hC, Below.refl _ _, rfl⟩
    · refine ⟨rfl, fun v W ρ hC hc hf hs hi hd => ?_⟩
      have d17 : v 17 = .int .u8 p.flags := hd _ (Array.mem_of_getElem? (i := 0) rfl) rfl
      have t30 : ρ (.tmp 30) = v 17 := hs 17 30 (by decide) rfl
      rw [d17] at t30
      simp [execOp, go_sem, t30, hc]
      exact ⟨hC.alloc hC.size _, (Below.refl _ _).alloc (Nat.le_refl _) _, W.heap.size, rfl, row_at [80, p.flags, 32, 0] (by simp; omega)⟩
    · refine ⟨rfl, fun v W ρ hC hc hf hs hi hd => ?_⟩
      obtain ⟨B18, e18, hB18⟩ : ∃ B, v 18 = .slice (some ⟨B, 0, none⟩) (rowL [80, p.flags, 32, 0]).length (rowL [80, p.flags, 32, 0]).length ∧ BytesAt B (rowL [80, p.flags, 32, 0]) W := hd _ (Array.mem_of_getElem? (i := 0) rfl) rfl
      have t31 : ρ (.tmp 31) = v 18 := hs 18 31 (by decide) rfl
      rw [e18] at t31
      have hcv := BytesAt.conv (rowL [80, p.flags, 32, 0]).length hB18
      simp [execOp, go_sem, t31, hcv]
      exact ⟨hC, Below.refl _ _, rfl⟩
    · refine ⟨rfl, fun v W ρ hC hc hf hs hi hd => ?_⟩
      have d14 : v 14 = .string (twoT p.a.toNat ++ (twoT p.b.toNat) ++ (fourT p.seq.toNat) ++ (fourT p.ack.toNat)) := hd _ (Array.mem_of_getElem? (i := 0) rfl) rfl
      have t27 : ρ (.tmp 27) = v 14 := hs 14 27 (by decide) rfl
      rw [d14] at t27
      have d19 : v 19 = .string (rowT [80, p.flags, 32, 0]) := hd _ (Array.mem_of_getElem? (i := 1) rfl) rfl
      have t32 : ρ (.tmp 32) = v 19 := hs 19 32 (by decide) rfl
      rw [d19] at t32
      simp [execOp, go_sem, t27, t32]
      first | exact ⟨hC, Below.refl _ _, rfl⟩ | (rw [if_neg (by omega)]; exact ⟨hC, Below.refl _ _, rfl⟩)
    · refine ⟨rfl, fun v W ρ hC hc hf hs hi hd => ?_⟩
      have t5 : ρ (.tmp 5) = .string (twoT c) := hi 5 (by decide)
      simp [execOp, go_sem, t5]
      exact ⟨hC, Below.refl _ _, rfl⟩
    · refine ⟨rfl, fun v W ρ hC hc hf hs hi hd => ?_⟩
      have d20 : v 20 = .string (twoT p.a.toNat ++ (twoT p.b.toNat) ++ (fourT p.seq.toNat) ++ (fourT p.ack.toNat) ++ (rowT [80, p.flags, 32, 0])) := hd _ (Array.mem_of_getElem? (i := 0) rfl) rfl
      have t33 : ρ (.tmp 33) = v 20 := hs 20 33 (by decide) rfl
      rw [d20] at t33
      have d21 : v 21 = .string (twoT c) := hd _ (Array.mem_of_getElem? (i := 1) rfl) rfl
      have t34 : ρ (.tmp 34) = v 21 := hs 21 34 (by decide) rfl
      rw [d21] at t34
      simp [execOp, go_sem, t33, t34]
      first | exact ⟨hC, Below.refl _ _, rfl⟩ | (rw [if_neg (by omega)]; exact ⟨hC, Below.refl _ _, rfl⟩)
    · refine ⟨rfl, fun v W ρ hC hc hf hs hi hd => ?_⟩
      have d22 : v 22 = .string (twoT p.a.toNat ++ (twoT p.b.toNat) ++ (fourT p.seq.toNat) ++ (fourT p.ack.toNat) ++ (rowT [80, p.flags, 32, 0]) ++ (twoT c)) := hd _ (Array.mem_of_getElem? (i := 0) rfl) rfl
      have t35 : ρ (.tmp 35) = v 22 := hs 22 35 (by decide) rfl
      rw [d22] at t35
      simp [execOp, go_sem, t35, hc]
      first | exact ⟨hC, Below.refl _ _, rfl⟩ | (rw [if_neg (by omega)]; exact ⟨hC, Below.refl _ _, rfl⟩)
    · refine ⟨rfl, fun v W ρ hC hc hf hs hi hd => ?_⟩
      have t2 : ρ (.tmp 2) = .pointer (some ⟨w.heap.size, 0, none⟩) := hi 2 (by decide)
      simp [execOp, go_sem, t2]
      exact ⟨hC, Below.refl _ _, rfl⟩
    · refine ⟨rfl, fun v W ρ hC hc hf hs hi hd => ?_⟩
      have d24 : v 24 = .pointer (some ⟨w.heap.size, 9, none⟩) := hd _ (Array.mem_of_getElem? (i := 0) rfl) rfl
      have t37 : ρ (.tmp 37) = v 24 := hs 24 37 (by decide) rfl
      rw [d24] at t37
      have hp := HP.out.later hC
      obtain ⟨_, _, _, c3, c4, c5, c6, c7, c8, c9⟩ := hp
      simp [execOp, go_sem, t37, c9]
      exact ⟨hC, Below.refl _ _, rfl⟩
    · refine ⟨rfl, fun v W ρ hC hc hf hs hi hd => ?_⟩
      have d23 : v 23 = .string (twoT p.a.toNat ++ (twoT p.b.toNat) ++ (fourT p.seq.toNat) ++ (fourT p.ack.toNat) ++ (rowT [80, p.flags, 32, 0]) ++ (twoT c) ++ ⟨#[0, 0]⟩) := hd _ (Array.mem_of_getElem? (i := 0) rfl) rfl
      have t36 : ρ (.tmp 36) = v 23 := hs 23 36 (by decide) rfl
      rw [d23] at t36
      have d25 : v 25 = .string p.body := hd _ (Array.mem_of_getElem? (i := 1) rfl) rfl
      have t38 : ρ (.tmp 38) = v 25 := hs 25 38 (by decide) rfl
      rw [d25] at t38
      simp [execOp, go_sem, t36, t38]
      first | exact ⟨hC, Below.refl _ _, rfl⟩ | (rw [if_neg (by omega)]; exact ⟨hC, Below.refl _ _, rfl⟩)
    · refine ⟨rfl, fun v W ρ hC hc hf hs hi hd => ?_⟩
      have d26 : v 26 = .string (twoT p.a.toNat ++ (twoT p.b.toNat) ++ (fourT p.seq.toNat) ++ (fourT p.ack.toNat) ++ (rowT [80, p.flags, 32, 0]) ++ (twoT c) ++ ⟨#[0, 0]⟩ ++ p.body) := hd _ (Array.mem_of_getElem? (i := 0) rfl) rfl
      have t39 : ρ (.tmp 39) = v 26 := hs 26 39 (by decide) rfl
      rw [d26] at t39
      simp [execOp, go_sem, t39]
      exact ⟨hC, Below.refl _ _, rfl⟩
  case fin =>
    intro v W hC hall
    have hL : v 27 = .string (twoT p.a.toNat ++ (twoT p.b.toNat) ++ (fourT p.seq.toNat) ++ (fourT p.ack.toNat) ++ (rowT [80, p.flags, 32, 0]) ++ (twoT c) ++ ⟨#[0, 0]⟩ ++ p.body) := hall 27 (by decide)
    simp [upto, Act.put]
    rw [hL]
    clear hall hL
    have hE := hidS (hB1.out.trans (hC.mono hB1.out.size))
    go_wp2
    go_ret
    exact ⟨by unfold tailT; rw [if_pos H6.out]; rfl, hE.out⟩

set_option maxHeartbeats 4000000 in
theorem l03Tail_udp (p : Pk) (c : Nat) (w : World) (h17 : p.proto = 17) (hc : c ≤ 65535) (ha : wordB p.a = true) (hb : wordB p.b = true) (hs : p.body.size ≤ 1000) :
    Calls Tryd.prog 39 #[.agg #[.int .i64 p.src, .int .i64 p.dst, .int .i64 p.proto, .int .i64 p.a, .int .i64 p.b, .int .i64 p.kind, .int .i64 p.flags, .int .i64 p.seq, .int .i64 p.ack, .string p.body], .int .i64 (c : Int)] w fun e w' => e = .returned (.string (tailT p c)) ∧ Below w.heap.size w w' := by
  have h6' : (p.proto == 6) = false := by rw [h17]; rfl
  have h17' : (p.proto == 17) = true := beq_iff_eq.2 h17
  have z1 := twoT_size p.a.toNat
  have z2 := twoT_size p.b.toNat
  have z3 := twoT_size (8 + (p.body.size : Int)).toNat
  have z5 := twoT_size c
  have hw8 : wordB (8 + (p.body.size : Int)) = true := wordB_iff.2 ⟨by omega, by omega⟩
  have H17 := hidS h17
  clear h17
  go_enter Tryd.func39, Tryd.ntmps39
  go_wp2_with fail
  refine (l02Two_of c _ rfl hc).mono ?_
  rintro e w1 ⟨rfl, hb1⟩
  have hP1 := (PkAt.new p w).later hb1
  have hB1 := hidS (((Below.refl w.heap.size w).alloc (Nat.le_refl _) _).trans (hb1.mono (by simp)))
  clear hb1
  have HP := hidS hP1
  obtain ⟨_, _, c2, c3, c4, c5, c6, c7, c8, c9⟩ := hP1
  go_wp2_with fail
  have hwz : IntKind.i64.wrap (8 + (p.body.size : Int)) = 8 + (p.body.size : Int) := IntWalk.i64_in _ (by omega)
  refine grow_kinds 19 [.is (.pointer (some ⟨w.heap.size, 3, none⟩)), .is (.int .i64 p.a), .is (.string (twoT p.a.toNat)), .is (.pointer (some ⟨w.heap.size, 4, none⟩)), .is (.int .i64 p.b), .is (.string (twoT p.b.toNat)), .is (.string (twoT p.a.toNat ++ (twoT p.b.toNat))), .is (.pointer (some ⟨w.heap.size, 9, none⟩)), .is (.string p.body), .is (.int .i64 (p.body.size : Int)), .is (.int .i64 (8 + (p.body.size : Int))), .is (.string (twoT (8 + (p.body.size : Int)).toNat)), .is (.string (twoT p.a.toNat ++ (twoT p.b.toNat) ++ (twoT (8 + (p.body.size : Int)).toNat))), .is (.string (twoT c)), .is (.string (twoT p.a.toNat ++ (twoT p.b.toNat) ++ (twoT (8 + (p.body.size : Int)).toNat) ++ (twoT c))), .is (.pointer (some ⟨w.heap.size, 9, none⟩)), .is (.string p.body), .is (.string (twoT p.a.toNat ++ (twoT p.b.toNat) ++ (twoT (8 + (p.body.size : Int)).toNat) ++ (twoT c) ++ p.body)), .is (.string (twoT p.a.toNat ++ (twoT p.b.toNat) ++ (twoT (8 + (p.body.size : Int)).toNat) ++ (twoT c) ++ p.body))] rfl (by kernel_rfl) (by kernel_rfl) ?steps ?fin
  case steps =>
    refine ⟨?_, ?_, ?_, ?_, ?_, ?_, ?_, ?_, ?_, ?_, ?_, ?_, ?_, ?_, ?_, ?_, ?_, ?_, ?_, trivial⟩
    · refine ⟨rfl, fun v W ρ hC hc hf hs hi hd => ?_⟩
      have t2 : ρ (.tmp 2) = .pointer (some ⟨w.heap.size, 0, none⟩) := hi 2 (by decide)
      simp [execOp, go_sem, t2]
      exact ⟨hC, Below.refl _ _, rfl⟩
    · refine ⟨rfl, fun v W ρ hC hc hf hs hi hd => ?_⟩
      have d0 : v 0 = .pointer (some ⟨w.heap.size, 3, none⟩) := hd _ (Array.mem_of_getElem? (i := 0) rfl) rfl
      have t42 : ρ (.tmp 42) = v 0 := hs 0 42 (by decide) rfl
      rw [d0] at t42
      have hp := HP.out.later hC
      obtain ⟨_, _, _, c3, c4, c5, c6, c7, c8, c9⟩ := hp
      simp [execOp, go_sem, t42, c3]
      exact ⟨hC, Below.refl _ _, rfl⟩
    · refine ⟨rfl, fun v W ρ hC hc hf hs hi hd => ?_⟩
      have d1 : v 1 = .int .i64 p.a := hd _ (Array.mem_of_getElem? (i := 0) rfl) rfl
      have t43 : ρ (.tmp 43) = v 1 := hs 1 43 (by decide) rfl
      rw [d1] at t43
      simp [execOp, go_sem, t43, hf]
      exact Calls.mono (l02Two_x _ _ (by assumption)) (fun e x h => ⟨_, h.1, hC.trans (h.2.mono hC.size), h.2, rfl⟩)
    · refine ⟨rfl, fun v W ρ hC hc hf hs hi hd => ?_⟩
      have t2 : ρ (.tmp 2) = .pointer (some ⟨w.heap.size, 0, none⟩) := hi 2 (by decide)
      simp [execOp, go_sem, t2]
      exact ⟨hC, Below.refl _ _, rfl⟩
    · refine ⟨rfl, fun v W ρ hC hc hf hs hi hd => ?_⟩
      have d3 : v 3 = .pointer (some ⟨w.heap.size, 4, none⟩) := hd _ (Array.mem_of_getElem? (i := 0) rfl) rfl
      have t45 : ρ (.tmp 45) = v 3 := hs 3 45 (by decide) rfl
      rw [d3] at t45
      have hp := HP.out.later hC
      obtain ⟨_, _, _, c3, c4, c5, c6, c7, c8, c9⟩ := hp
      simp [execOp, go_sem, t45, c4]
      exact ⟨hC, Below.refl _ _, rfl⟩
    · refine ⟨rfl, fun v W ρ hC hc hf hs hi hd => ?_⟩
      have d4 : v 4 = .int .i64 p.b := hd _ (Array.mem_of_getElem? (i := 0) rfl) rfl
      have t46 : ρ (.tmp 46) = v 4 := hs 4 46 (by decide) rfl
      rw [d4] at t46
      simp [execOp, go_sem, t46, hf]
      exact Calls.mono (l02Two_x _ _ (by assumption)) (fun e x h => ⟨_, h.1, hC.trans (h.2.mono hC.size), h.2, rfl⟩)
    · refine ⟨rfl, fun v W ρ hC hc hf hs hi hd => ?_⟩
      have d2 : v 2 = .string (twoT p.a.toNat) := hd _ (Array.mem_of_getElem? (i := 0) rfl) rfl
      have t44 : ρ (.tmp 44) = v 2 := hs 2 44 (by decide) rfl
      rw [d2] at t44
      have d5 : v 5 = .string (twoT p.b.toNat) := hd _ (Array.mem_of_getElem? (i := 1) rfl) rfl
      have t47 : ρ (.tmp 47) = v 5 := hs 5 47 (by decide) rfl
      rw [d5] at t47
      simp [execOp, go_sem, t44, t47]
      first | exact ⟨hC, Below.refl _ _, rfl⟩ | (rw [if_neg (by omega)]; exact ⟨hC, Below.refl _ _, rfl⟩)
    · refine ⟨rfl, fun v W ρ hC hc hf hs hi hd => ?_⟩
      have t2 : ρ (.tmp 2) = .pointer (some ⟨w.heap.size, 0, none⟩) := hi 2 (by decide)
      simp [execOp, go_sem, t2]
      exact ⟨hC, Below.refl _ _, rfl⟩
    · refine ⟨rfl, fun v W ρ hC hc hf hs hi hd => ?_⟩
      have d7 : v 7 = .pointer (some ⟨w.heap.size, 9, none⟩) := hd _ (Array.mem_of_getElem? (i := 0) rfl) rfl
      have t49 : ρ (.tmp 49) = v 7 := hs 7 49 (by decide) rfl
      rw [d7] at t49
      have hp := HP.out.later hC
      obtain ⟨_, _, _, c3, c4, c5, c6, c7, c8, c9⟩ := hp
      simp [execOp, go_sem, t49, c9]
      exact ⟨hC, Below.refl _ _, rfl⟩
    · refine ⟨rfl, fun v W ρ hC hc hf hs hi hd => ?_⟩
      have d8 : v 8 = .string p.body := hd _ (Array.mem_of_getElem? (i := 0) rfl) rfl
      have t50 : ρ (.tmp 50) = v 8 := hs 8 50 (by decide) rfl
      rw [d8] at t50
      simp [execOp, go_sem, t50]
      exact ⟨hC, Below.refl _ _, rfl⟩
    · refine ⟨rfl, fun v W ρ hC hc hf hs hi hd => ?_⟩
      have d9 : v 9 = .int .i64 (p.body.size : Int) := hd _ (Array.mem_of_getElem? (i := 0) rfl) rfl
      have t51 : ρ (.tmp 51) = v 9 := hs 9 51 (by decide) rfl
      rw [d9] at t51
      simp [execOp, go_sem, t51, hwz, hc]
      exact ⟨hC, Below.refl _ _, rfl⟩
    · refine ⟨rfl, fun v W ρ hC hc hf hs hi hd => ?_⟩
      have d10 : v 10 = .int .i64 (8 + (p.body.size : Int)) := hd _ (Array.mem_of_getElem? (i := 0) rfl) rfl
      have t52 : ρ (.tmp 52) = v 10 := hs 10 52 (by decide) rfl
      rw [d10] at t52
      simp [execOp, go_sem, t52, hf]
      exact Calls.mono (l02Two_x _ _ (by assumption)) (fun e x h => ⟨_, h.1, hC.trans (h.2.mono hC.size), h.2, rfl⟩)
    · refine ⟨rfl, fun v W ρ hC hc hf hs hi hd => ?_⟩
      have d6 : v 6 = .string (twoT p.a.toNat ++ (twoT p.b.toNat)) := hd _ (Array.mem_of_getElem? (i := 0) rfl) rfl
      have t48 : ρ (.tmp 48) = v 6 := hs 6 48 (by decide) rfl
      rw [d6] at t48
      have d11 : v 11 = .string (twoT (8 + (p.body.size : Int)).toNat) := hd _ (Array.mem_of_getElem? (i := 1) rfl) rfl
      have t53 : ρ (.tmp 53) = v 11 := hs 11 53 (by decide) rfl
      rw [d11] at t53
      simp [execOp, go_sem, t48, t53]
      first | exact ⟨hC, Below.refl _ _, rfl⟩ | (rw [if_neg (by omega)]; exact ⟨hC, Below.refl _ _, rfl⟩)
    · refine ⟨rfl, fun v W ρ hC hc hf hs hi hd => ?_⟩
      have t5 : ρ (.tmp 5) = .string (twoT c) := hi 5 (by decide)
      simp [execOp, go_sem, t5]
      exact ⟨hC, Below.refl _ _, rfl⟩
    · refine ⟨rfl, fun v W ρ hC hc hf hs hi hd => ?_⟩
      have d12 : v 12 = .string (twoT p.a.toNat ++ (twoT p.b.toNat) ++ (twoT (8 + (p.body.size : Int)).toNat)) := hd _ (Array.mem_of_getElem? (i := 0) rfl) rfl
      have t54 : ρ (.tmp 54) = v 12 := hs 12 54 (by decide) rfl
      rw [d12] at t54
      have d13 : v 13 = .string (twoT c) := hd _ (Array.mem_of_getElem? (i := 1) rfl) rfl
      have t55 : ρ (.tmp 55) = v 13 := hs 13 55 (by decide) rfl
      rw [d13] at t55
      simp [execOp, go_sem, t54, t55]
      first | exact ⟨hC, Below.refl _ _, rfl⟩ | (rw [if_neg (by omega)]; exact ⟨hC, Below.refl _ _, rfl⟩)
    · refine ⟨rfl, fun v W ρ hC hc hf hs hi hd => ?_⟩
      have t2 : ρ (.tmp 2) = .pointer (some ⟨w.heap.size, 0, none⟩) := hi 2 (by decide)
      simp [execOp, go_sem, t2]
      exact ⟨hC, Below.refl _ _, rfl⟩
    · refine ⟨rfl, fun v W ρ hC hc hf hs hi hd => ?_⟩
      have d15 : v 15 = .pointer (some ⟨w.heap.size, 9, none⟩) := hd _ (Array.mem_of_getElem? (i := 0) rfl) rfl
      have t57 : ρ (.tmp 57) = v 15 := hs 15 57 (by decide) rfl
      rw [d15] at t57
      have hp := HP.out.later hC
      obtain ⟨_, _, _, c3, c4, c5, c6, c7, c8, c9⟩ := hp
      simp [execOp, go_sem, t57, c9]
      exact ⟨hC, Below.refl _ _, rfl⟩
    · refine ⟨rfl, fun v W ρ hC hc hf hs hi hd => ?_⟩
      have d14 : v 14 = .string (twoT p.a.toNat ++ (twoT p.b.toNat) ++ (twoT (8 + (p.body.size : Int)).toNat) ++ (twoT c)) := hd _ (Array.mem_of_getElem? (i := 0) rfl) rfl
      have t56 : ρ (.tmp 56) = v 14 := hs 14 56 (by decide) rfl
      rw [d14] at t56
      have d16 : v 16 = .string p.body := hd _ (Array.mem_of_getElem? (i := 1) rfl) rfl
      have t58 : ρ (.tmp 58) = v 16 := hs 16 58 (by decide) rfl
      rw [d16] at t58
      simp [execOp, go_sem, t56, t58]
      first | exact ⟨hC, Below.refl _ _, rfl⟩ | (rw [if_neg (by omega)]; exact ⟨hC, Below.refl _ _, rfl⟩)
    · refine ⟨rfl, fun v W ρ hC hc hf hs hi hd => ?_⟩
      have d17 : v 17 = .string (twoT p.a.toNat ++ (twoT p.b.toNat) ++ (twoT (8 + (p.body.size : Int)).toNat) ++ (twoT c) ++ p.body) := hd _ (Array.mem_of_getElem? (i := 0) rfl) rfl
      have t59 : ρ (.tmp 59) = v 17 := hs 17 59 (by decide) rfl
      rw [d17] at t59
      simp [execOp, go_sem, t59]
      exact ⟨hC, Below.refl _ _, rfl⟩
  case fin =>
    intro v W hC hall
    have hL : v 18 = .string (twoT p.a.toNat ++ (twoT p.b.toNat) ++ (twoT (8 + (p.body.size : Int)).toNat) ++ (twoT c) ++ p.body) := hall 18 (by decide)
    simp [upto, Act.put]
    rw [hL]
    clear hall hL
    have hE := hidS (hB1.out.trans (hC.mono hB1.out.size))
    go_wp2
    go_ret
    exact ⟨by unfold tailT; rw [if_neg (by rw [H17.out]; decide), if_pos H17.out]; rfl, hE.out⟩

set_option maxHeartbeats 4000000 in
theorem l03Tail_err (p : Pk) (c : Nat) (w : World) (h1 : p.proto = 1) (hc : c ≤ 65535) (ha : wordB p.a = true) (hq : wordB p.seq = true) (hk1 : 0 ≤ p.kind) (hk2 : p.kind ≤ 255) (h3 : p.kind = 3) (hs : p.body.size ≤ 1000) :
    Calls Tryd.prog 39 #[.agg #[.int .i64 p.src, .int .i64 p.dst, .int .i64 p.proto, .int .i64 p.a, .int .i64 p.b, .int .i64 p.kind, .int .i64 p.flags, .int .i64 p.seq, .int .i64 p.ack, .string p.body], .int .i64 (c : Int)] w fun e w' => e = .returned (.string (tailT p c)) ∧ Below w.heap.size w w' := by
  have h6' : (p.proto == 6) = false := by rw [h1]; rfl
  have h17' : (p.proto == 17) = false := by rw [h1]; rfl
  have h3' : (p.kind == 3) = true := beq_iff_eq.2 h3
  have z1 := twoT_size p.a.toNat
  have z2 := twoT_size p.seq.toNat
  have z4 : (rowT [p.kind, 1]).size = 2 := rowT_size _
  have z5 := twoT_size c
  have H1 := hidS h1
  have H3 := hidS h3
  clear h1 h3
  go_enter Tryd.func39, Tryd.ntmps39
  go_wp2_with fail
  refine (l02Two_of c _ rfl hc).mono ?_
  rintro e w1 ⟨rfl, hb1⟩
  have hP1 := (PkAt.new p w).later hb1
  have hB1 := hidS (((Below.refl w.heap.size w).alloc (Nat.le_refl _) _).trans (hb1.mono (by simp)))
  clear hb1
  have HP := hidS hP1
  obtain ⟨_, _, c2, c3, c4, c5, c6, c7, c8, c9⟩ := hP1
  go_wp2_with fail
  have hwf : IntKind.u8.wrap p.kind = p.kind := IntWalk.u8_in _ (by omega)
  refine grow_kinds 20 [.is (.pointer (some ⟨w.heap.size, 5, none⟩)), .is (.int .i64 p.kind), .is (.int .u8 p.kind), .is (.int .u8 1), .row (rowL [p.kind, 1]), .is (.string (rowT [p.kind, 1])), .is (.string (twoT c)), .is (.string (rowT [p.kind, 1] ++ (twoT c))), .is (.pointer (some ⟨w.heap.size, 3, none⟩)), .is (.int .i64 p.a), .is (.string (twoT p.a.toNat)), .is (.string (rowT [p.kind, 1] ++ (twoT c) ++ (twoT p.a.toNat))), .is (.pointer (some ⟨w.heap.size, 7, none⟩)), .is (.int .i64 p.seq), .is (.string (twoT p.seq.toNat)), .is (.string (rowT [p.kind, 1] ++ (twoT c) ++ (twoT p.a.toNat) ++ (twoT p.seq.toNat))), .is (.pointer (some ⟨w.heap.size, 9, none⟩)), .is (.string p.body), .is (.string (rowT [p.kind, 1] ++ (twoT c) ++ (twoT p.a.toNat) ++ (twoT p.seq.toNat) ++ p.body)), .is (.string (rowT [p.kind, 1] ++ (twoT c) ++ (twoT p.a.toNat) ++ (twoT p.seq.toNat) ++ p.body))] rfl (by kernel_rfl) (by kernel_rfl) ?steps ?fin
  case steps =>
    refine ⟨?_, ?_, ?_, ?_, ?_, ?_, ?_, ?_, ?_, ?_, ?_, ?_, ?_, ?_, ?_, ?_, ?_, ?_, ?_, ?_, trivial⟩
    · refine ⟨rfl, fun v W ρ hC hc hf hs hi hd => ?_⟩
      have t2 : ρ (.tmp 2) = .pointer (some ⟨w.heap.size, 0, none⟩) := hi 2 (by decide)
      simp [execOp, go_sem, t2]
      exact ⟨hC, Below.refl _ _, rfl⟩
    · refine ⟨rfl, fun v W ρ hC hc hf hs hi hd => ?_⟩
      have d0 : v 0 = .pointer (some ⟨w.heap.size, 5, none⟩) := hd _ (Array.mem_of_getElem? (i := 0) rfl) rfl
      have t63 : ρ (.tmp 63) = v 0 := hs 0 63 (by decide) rfl
      rw [d0] at t63
      have hp := HP.out.later hC
      obtain ⟨_, _, _, c3, c4, c5, c6, c7, c8, c9⟩ := hp
      simp [execOp, go_sem, t63, c5]
      exact ⟨hC, Below.refl _ _, rfl⟩
    · refine ⟨rfl, fun v W ρ hC hc hf hs hi hd => ?_⟩
      have d1 : v 1 = .int .i64 p.kind := hd _ (Array.mem_of_getElem? (i := 0) rfl) rfl
      have t64 : ρ (.tmp 64) = v 1 := hs 1 64 (by decide) rfl
      rw [d1] at t64
      simp [execOp, go_sem, t64, hwf]
      exact ⟨hC, Below.refl _ _, rfl⟩
    · refine ⟨rfl, fun v W ρ hC hc hf hs hi hd => ?_⟩
      have t6 : ρ (.tmp 6) = .int .u8 1 := hi 6 (by decide)
      simp [execOp, go_sem, t6]
      exact ⟨hC, Below.refl _ _, rfl⟩
    · refine ⟨rfl, fun v W ρ hC hc hf hs hi hd => ?_⟩
      have d2 : v 2 = .int .u8 p.kind := hd _ (Array.mem_of_getElem? (i := 0) rfl) rfl
      have t65 : ρ (.tmp 65) = v 2 := hs 2 65 (by decide) rfl
      rw [d2] at t65
      have d3 : v 3 = .int .u8 1 := hd _ (Array.mem_of_getElem? (i := 1) rfl) rfl
      have t66 : ρ (.tmp 66) = v 3 := hs 3 66 (by decide) rfl
      rw [d3] at t66
      simp [execOp, go_sem, t65, t66]
      exact ⟨hC.alloc hC.size _, (Below.refl _ _).alloc (Nat.le_refl _) _, W.heap.size, rfl, row_at [p.kind, 1] (by simp; omega)⟩
    · refine ⟨rfl, fun v W ρ hC hc hf hs hi hd => ?_⟩
      obtain ⟨B4, e4, hB4⟩ : ∃ B, v 4 = .slice (some ⟨B, 0, none⟩) (rowL [p.kind, 1]).length (rowL [p.kind, 1]).length ∧ BytesAt B (rowL [p.kind, 1]) W := hd _ (Array.mem_of_getElem? (i := 0) rfl) rfl
      have t67 : ρ (.tmp 67) = v 4 := hs 4 67 (by decide) rfl
      rw [e4] at t67
      have hcv := BytesAt.conv (rowL [p.kind, 1]).length hB4
      simp [execOp, go_sem, t67, hcv]
      exact ⟨hC, Below.refl _ _, rfl⟩
    · refine ⟨rfl, fun v W ρ hC hc hf hs hi hd => ?_⟩
      have t5 : ρ (.tmp 5) = .string (twoT c) := hi 5 (by decide)
      simp [execOp, go_sem, t5]
      exact ⟨hC, Below.refl _ _, rfl⟩
    · refine ⟨rfl, fun v W ρ hC hc hf hs hi hd => ?_⟩
      have d5 : v 5 = .string (rowT [p.kind, 1]) := hd _ (Array.mem_of_getElem? (i := 0) rfl) rfl
      have t68 : ρ (.tmp 68) = v 5 := hs 5 68 (by decide) rfl
      rw [d5] at t68
      have d6 : v 6 = .string (twoT c) := hd _ (Array.mem_of_getElem? (i := 1) rfl) rfl
      have t69 : ρ (.tmp 69) = v 6 := hs 6 69 (by decide) rfl
      rw [d6] at t69
      simp [execOp, go_sem, t68, t69]
      first | exact ⟨hC, Below.refl _ _, rfl⟩ | (rw [if_neg (by omega)]; exact ⟨hC, Below.refl _ _, rfl⟩)
    · refine ⟨rfl, fun v W ρ hC hc hf hs hi hd => ?_⟩
      have t2 : ρ (.tmp 2) = .pointer (some ⟨w.heap.size, 0, none⟩) := hi 2 (by decide)
      simp [execOp, go_sem, t2]
      exact ⟨hC, Below.refl _ _, rfl⟩
    · refine ⟨rfl, fun v W ρ hC hc hf hs hi hd => ?_⟩
      have d8 : v 8 = .pointer (some ⟨w.heap.size, 3, none⟩) := hd _ (Array.mem_of_getElem? (i := 0) rfl) rfl
      have t71 : ρ (.tmp 71) = v 8 := hs 8 71 (by decide) rfl
      rw [d8] at t71
      have hp := HP.out.later hC
      obtain ⟨_, _, _, c3, c4, c5, c6, c7, c8, c9⟩ := hp
      simp [execOp, go_sem, t71, c3]
      exact ⟨hC, Below.refl _ _, rfl⟩
    · refine ⟨rfl, fun v W ρ hC hc hf hs hi hd => ?_⟩
      have d9 : v 9 = .int .i64 p.a := hd _ (Array.mem_of_getElem? (i := 0) rfl) rfl
      have t72 : ρ (.tmp 72) = v 9 := hs 9 72 (by decide) rfl
      rw [d9] at t72
      simp [execOp, go_sem, t72, hf]
      exact Calls.mono (l02Two_x _ _ (by assumption)) (fun e x h => ⟨_, h.1, hC.trans (h.2.mono hC.size), h.2, rfl⟩)
    · refine ⟨rfl, fun v W ρ hC hc hf hs hi hd => ?_⟩
      have d7 : v 7 = .string (rowT [p.kind, 1] ++ (twoT c)) := hd _ (Array.mem_of_getElem? (i := 0) rfl) rfl
      have t70 : ρ (.tmp 70) = v 7 := hs 7 70 (by decide) rfl
      rw [d7] at t70
      have d10 : v 10 = .string (twoT p.a.toNat) := hd _ (Array.mem_of_getElem? (i := 1) rfl) rfl
      have t73 : ρ (.tmp 73) = v 10 := hs 10 73 (by decide) rfl
      rw [d10] at t73
      simp [execOp, go_sem, t70, t73]
      first | exact ⟨hC, Below.refl _ _, rfl⟩ | (rw [if_neg (by omega)]; exact ⟨hC, Below.refl _ _, rfl⟩)
    · refine ⟨rfl, fun v W ρ hC hc hf hs hi hd => ?_⟩
      have t2 : ρ (.tmp 2) = .pointer (some ⟨w.heap.size, 0, none⟩) := hi 2 (by decide)
      simp [execOp, go_sem, t2]
      exact ⟨hC, Below.refl _ _, rfl⟩
    · refine ⟨rfl, fun v W ρ hC hc hf hs hi hd => ?_⟩
      have d12 : v 12 = .pointer (some ⟨w.heap.size, 7, none⟩) := hd _ (Array.mem_of_getElem? (i := 0) rfl) rfl
      have t75 : ρ (.tmp 75) = v 12 := hs 12 75 (by decide) rfl
      rw [d12] at t75
      have hp := HP.out.later hC
      obtain ⟨_, _, _, c3, c4, c5, c6, c7, c8, c9⟩ := hp
      simp [execOp, go_sem, t75, c7]
      exact ⟨hC, Below.refl _ _, rfl⟩
    · refine ⟨rfl, fun v W ρ hC hc hf hs hi hd => ?_⟩
      have d13 : v 13 = .int .i64 p.seq := hd _ (Array.mem_of_getElem? (i := 0) rfl) rfl
      have t76 : ρ (.tmp 76) = v 13 := hs 13 76 (by decide) rfl
      rw [d13] at t76
      simp [execOp, go_sem, t76, hf]
      exact Calls.mono (l02Two_x _ _ (by assumption)) (fun e x h => ⟨_, h.1, hC.trans (h.2.mono hC.size), h.2, rfl⟩)
    · refine ⟨rfl, fun v W ρ hC hc hf hs hi hd => ?_⟩
      have d11 : v 11 = .string (rowT [p.kind, 1] ++ (twoT c) ++ (twoT p.a.toNat)) := hd _ (Array.mem_of_getElem? (i := 0) rfl) rfl
      have t74 : ρ (.tmp 74) = v 11 := hs 11 74 (by decide) rfl
      rw [d11] at t74
      have d14 : v 14 = .string (twoT p.seq.toNat) := hd _ (Array.mem_of_getElem? (i := 1) rfl) rfl
      have t77 : ρ (.tmp 77) = v 14 := hs 14 77 (by decide) rfl
      rw [d14] at t77
      simp [execOp, go_sem, t74, t77]
      first | exact ⟨hC, Below.refl _ _, rfl⟩ | (rw [if_neg (by omega)]; exact ⟨hC, Below.refl _ _, rfl⟩)
    · refine ⟨rfl, fun v W ρ hC hc hf hs hi hd => ?_⟩
      have t2 : ρ (.tmp 2) = .pointer (some ⟨w.heap.size, 0, none⟩) := hi 2 (by decide)
      simp [execOp, go_sem, t2]
      exact ⟨hC, Below.refl _ _, rfl⟩
    · refine ⟨rfl, fun v W ρ hC hc hf hs hi hd => ?_⟩
      have d16 : v 16 = .pointer (some ⟨w.heap.size, 9, none⟩) := hd _ (Array.mem_of_getElem? (i := 0) rfl) rfl
      have t79 : ρ (.tmp 79) = v 16 := hs 16 79 (by decide) rfl
      rw [d16] at t79
      have hp := HP.out.later hC
      obtain ⟨_, _, _, c3, c4, c5, c6, c7, c8, c9⟩ := hp
      simp [execOp, go_sem, t79, c9]
      exact ⟨hC, Below.refl _ _, rfl⟩
    · refine ⟨rfl, fun v W ρ hC hc hf hs hi hd => ?_⟩
      have d15 : v 15 = .string (rowT [p.kind, 1] ++ (twoT c) ++ (twoT p.a.toNat) ++ (twoT p.seq.toNat)) := hd _ (Array.mem_of_getElem? (i := 0) rfl) rfl
      have t78 : ρ (.tmp 78) = v 15 := hs 15 78 (by decide) rfl
      rw [d15] at t78
      have d17 : v 17 = .string p.body := hd _ (Array.mem_of_getElem? (i := 1) rfl) rfl
      have t80 : ρ (.tmp 80) = v 17 := hs 17 80 (by decide) rfl
      rw [d17] at t80
      simp [execOp, go_sem, t78, t80]
      first | exact ⟨hC, Below.refl _ _, rfl⟩ | (rw [if_neg (by omega)]; exact ⟨hC, Below.refl _ _, rfl⟩)
    · refine ⟨rfl, fun v W ρ hC hc hf hs hi hd => ?_⟩
      have d18 : v 18 = .string (rowT [p.kind, 1] ++ (twoT c) ++ (twoT p.a.toNat) ++ (twoT p.seq.toNat) ++ p.body) := hd _ (Array.mem_of_getElem? (i := 0) rfl) rfl
      have t81 : ρ (.tmp 81) = v 18 := hs 18 81 (by decide) rfl
      rw [d18] at t81
      simp [execOp, go_sem, t81]
      exact ⟨hC, Below.refl _ _, rfl⟩
  case fin =>
    intro v W hC hall
    have hL : v 19 = .string (rowT [p.kind, 1] ++ (twoT c) ++ (twoT p.a.toNat) ++ (twoT p.seq.toNat) ++ p.body) := hall 19 (by decide)
    simp [upto, Act.put]
    rw [hL]
    clear hall hL
    have hE := hidS (hB1.out.trans (hC.mono hB1.out.size))
    go_wp2
    go_ret
    exact ⟨by unfold tailT; rw [if_neg (by rw [H1.out]; decide), if_neg (by rw [H1.out]; decide), if_pos H3.out]; rfl, hE.out⟩

set_option maxHeartbeats 4000000 in
theorem l03Tail_echo (p : Pk) (c : Nat) (w : World) (h1 : p.proto = 1) (hc : c ≤ 65535) (ha : wordB p.a = true) (hq : wordB p.seq = true) (hk1 : 0 ≤ p.kind) (hk2 : p.kind ≤ 255) (h3 : p.kind ≠ 3) (hs : p.body.size ≤ 1000) :
    Calls Tryd.prog 39 #[.agg #[.int .i64 p.src, .int .i64 p.dst, .int .i64 p.proto, .int .i64 p.a, .int .i64 p.b, .int .i64 p.kind, .int .i64 p.flags, .int .i64 p.seq, .int .i64 p.ack, .string p.body], .int .i64 (c : Int)] w fun e w' => e = .returned (.string (tailT p c)) ∧ Below w.heap.size w w' := by
  have h6' : (p.proto == 6) = false := by rw [h1]; rfl
  have h17' : (p.proto == 17) = false := by rw [h1]; rfl
  have h3' : (p.kind == 3) = false := beq_eq_false_iff_ne.2 h3
  have z1 := twoT_size p.a.toNat
  have z2 := twoT_size p.seq.toNat
  have z4 : (rowT [p.kind, 0]).size = 2 := rowT_size _
  have z5 := twoT_size c
  have H1 := hidS h1
  have H3 := hidS h3
  clear h1 h3
  go_enter Tryd.func39, Tryd.ntmps39
  go_wp2_with fail
  refine (l02Two_of c _ rfl hc).mono ?_
  rintro e w1 ⟨rfl, hb1⟩
  have hP1 := (PkAt.new p w).later hb1
  have hB1 := hidS (((Below.refl w.heap.size w).alloc (Nat.le_refl _) _).trans (hb1.mono (by simp)))
  clear hb1
  have HP := hidS hP1
  obtain ⟨_, _, c2, c3, c4, c5, c6, c7, c8, c9⟩ := hP1
  go_wp2_with fail
  have hwf : IntKind.u8.wrap p.kind = p.kind := IntWalk.u8_in _ (by omega)
  refine grow_kinds 20 [.is (.pointer (some ⟨w.heap.size, 5, none⟩)), .is (.int .i64 p.kind), .is (.int .u8 p.kind), .is (.int .u8 0), .row (rowL [p.kind, 0]), .is (.string (rowT [p.kind, 0])), .is (.string (twoT c)), .is (.string (rowT [p.kind, 0] ++ (twoT c))), .is (.pointer (some ⟨w.heap.size, 3, none⟩)), .is (.int .i64 p.a), .is (.string (twoT p.a.toNat)), .is (.string (rowT [p.kind, 0] ++ (twoT c) ++ (twoT p.a.toNat))), .is (.pointer (some ⟨w.heap.size, 7, none⟩)), .is (.int .i64 p.seq), .is (.string (twoT p.seq.toNat)), .is (.string (rowT [p.kind, 0] ++ (twoT c) ++ (twoT p.a.toNat) ++ (twoT p.seq.toNat))), .is (.pointer (some ⟨w.heap.size, 9, none⟩)), .is (.string p.body), .is (.string (rowT [p.kind, 0] ++ (twoT c) ++ (twoT p.a.toNat) ++ (twoT p.seq.toNat) ++ p.body)), .is (.string (rowT [p.kind, 0] ++ (twoT c) ++ (twoT p.a.toNat) ++ (twoT p.seq.toNat) ++ p.body))] rfl (by kernel_rfl) (by kernel_rfl) ?steps ?fin
  case steps =>
    refine ⟨?_, ?_, ?_, ?_, ?_, ?_, ?_, ?_, ?_, ?_, ?_, ?_, ?_, ?_, ?_, ?_, ?_, ?_, ?_, ?_, trivial⟩
    · refine ⟨rfl, fun v W ρ hC hc hf hs hi hd => ?_⟩
      have t2 : ρ (.tmp 2) = .pointer (some ⟨w.heap.size, 0, none⟩) := hi 2 (by decide)
      simp [execOp, go_sem, t2]
      exact ⟨hC, Below.refl _ _, rfl⟩
    · refine ⟨rfl, fun v W ρ hC hc hf hs hi hd => ?_⟩
      have d0 : v 0 = .pointer (some ⟨w.heap.size, 5, none⟩) := hd _ (Array.mem_of_getElem? (i := 0) rfl) rfl
      have t63 : ρ (.tmp 63) = v 0 := hs 0 63 (by decide) rfl
      rw [d0] at t63
      have hp := HP.out.later hC
      obtain ⟨_, _, _, c3, c4, c5, c6, c7, c8, c9⟩ := hp
      simp [execOp, go_sem, t63, c5]
      exact ⟨hC, Below.refl _ _, rfl⟩
    · refine ⟨rfl, fun v W ρ hC hc hf hs hi hd => ?_⟩
      have d1 : v 1 = .int .i64 p.kind := hd _ (Array.mem_of_getElem? (i := 0) rfl) rfl
      have t64 : ρ (.tmp 64) = v 1 := hs 1 64 (by decide) rfl
      rw [d1] at t64
      simp [execOp, go_sem, t64, hwf]
      exact ⟨hC, Below.refl _ _, rfl⟩
    · refine ⟨rfl, fun v W ρ hC hc hf hs hi hd => ?_⟩
      have t6 : ρ (.tmp 6) = .int .u8 0 := hi 6 (by decide)
      simp [execOp, go_sem, t6]
      exact ⟨hC, Below.refl _ _, rfl⟩
    · refine ⟨rfl, fun v W ρ hC hc hf hs hi hd => ?_⟩
      have d2 : v 2 = .int .u8 p.kind := hd _ (Array.mem_of_getElem? (i := 0) rfl) rfl
      have t65 : ρ (.tmp 65) = v 2 := hs 2 65 (by decide) rfl
      rw [d2] at t65
      have d3 : v 3 = .int .u8 0 := hd _ (Array.mem_of_getElem? (i := 1) rfl) rfl
      have t66 : ρ (.tmp 66) = v 3 := hs 3 66 (by decide) rfl
      rw [d3] at t66
      simp [execOp, go_sem, t65, t66]
      exact ⟨hC.alloc hC.size _, (Below.refl _ _).alloc (Nat.le_refl _) _, W.heap.size, rfl, row_at [p.kind, 0] (by simp; omega)⟩
    · refine ⟨rfl, fun v W ρ hC hc hf hs hi hd => ?_⟩
      obtain ⟨B4, e4, hB4⟩ : ∃ B, v 4 = .slice (some ⟨B, 0, none⟩) (rowL [p.kind, 0]).length (rowL [p.kind, 0]).length ∧ BytesAt B (rowL [p.kind, 0]) W := hd _ (Array.mem_of_getElem? (i := 0) rfl) rfl
      have t67 : ρ (.tmp 67) = v 4 := hs 4 67 (by decide) rfl
      rw [e4] at t67
      have hcv := BytesAt.conv (rowL [p.kind, 0]).length hB4
      simp [execOp, go_sem, t67, hcv]
      exact ⟨hC, Below.refl _ _, rfl⟩
    · refine ⟨rfl, fun v W ρ hC hc hf hs hi hd => ?_⟩
      have t5 : ρ (.tmp 5) = .string (twoT c) := hi 5 (by decide)
      simp [execOp, go_sem, t5]
      exact ⟨hC, Below.refl _ _, rfl⟩
    · refine ⟨rfl, fun v W ρ hC hc hf hs hi hd => ?_⟩
      have d5 : v 5 = .string (rowT [p.kind, 0]) := hd _ (Array.mem_of_getElem? (i := 0) rfl) rfl
      have t68 : ρ (.tmp 68) = v 5 := hs 5 68 (by decide) rfl
      rw [d5] at t68
      have d6 : v 6 = .string (twoT c) := hd _ (Array.mem_of_getElem? (i := 1) rfl) rfl
      have t69 : ρ (.tmp 69) = v 6 := hs 6 69 (by decide) rfl
      rw [d6] at t69
      simp [execOp, go_sem, t68, t69]
      first | exact ⟨hC, Below.refl _ _, rfl⟩ | (rw [if_neg (by omega)]; exact ⟨hC, Below.refl _ _, rfl⟩)
    · refine ⟨rfl, fun v W ρ hC hc hf hs hi hd => ?_⟩
      have t2 : ρ (.tmp 2) = .pointer (some ⟨w.heap.size, 0, none⟩) := hi 2 (by decide)
      simp [execOp, go_sem, t2]
      exact ⟨hC, Below.refl _ _, rfl⟩
    · refine ⟨rfl, fun v W ρ hC hc hf hs hi hd => ?_⟩
      have d8 : v 8 = .pointer (some ⟨w.heap.size, 3, none⟩) := hd _ (Array.mem_of_getElem? (i := 0) rfl) rfl
      have t71 : ρ (.tmp 71) = v 8 := hs 8 71 (by decide) rfl
      rw [d8] at t71
      have hp := HP.out.later hC
      obtain ⟨_, _, _, c3, c4, c5, c6, c7, c8, c9⟩ := hp
      simp [execOp, go_sem, t71, c3]
      exact ⟨hC, Below.refl _ _, rfl⟩
    · refine ⟨rfl, fun v W ρ hC hc hf hs hi hd => ?_⟩
      have d9 : v 9 = .int .i64 p.a := hd _ (Array.mem_of_getElem? (i := 0) rfl) rfl
      have t72 : ρ (.tmp 72) = v 9 := hs 9 72 (by decide) rfl
      rw [d9] at t72
      simp [execOp, go_sem, t72, hf]
      exact Calls.mono (l02Two_x _ _ (by assumption)) (fun e x h => ⟨_, h.1, hC.trans (h.2.mono hC.size), h.2, rfl⟩)
    · refine ⟨rfl, fun v W ρ hC hc hf hs hi hd => ?_⟩
      have d7 : v 7 = .string (rowT [p.kind, 0] ++ (twoT c)) := hd _ (Array.mem_of_getElem? (i := 0) rfl) rfl
      have t70 : ρ (.tmp 70) = v 7 := hs 7 70 (by decide) rfl
      rw [d7] at t70
      have d10 : v 10 = .string (twoT p.a.toNat) := hd _ (Array.mem_of_getElem? (i := 1) rfl) rfl
      have t73 : ρ (.tmp 73) = v 10 := hs 10 73 (by decide) rfl
      rw [d10] at t73
      simp [execOp, go_sem, t70, t73]
      first | exact ⟨hC, Below.refl _ _, rfl⟩ | (rw [if_neg (by omega)]; exact ⟨hC, Below.refl _ _, rfl⟩)
    · refine ⟨rfl, fun v W ρ hC hc hf hs hi hd => ?_⟩
      have t2 : ρ (.tmp 2) = .pointer (some ⟨w.heap.size, 0, none⟩) := hi 2 (by decide)
      simp [execOp, go_sem, t2]
      exact ⟨hC, Below.refl _ _, rfl⟩
    · refine ⟨rfl, fun v W ρ hC hc hf hs hi hd => ?_⟩
      have d12 : v 12 = .pointer (some ⟨w.heap.size, 7, none⟩) := hd _ (Array.mem_of_getElem? (i := 0) rfl) rfl
      have t75 : ρ (.tmp 75) = v 12 := hs 12 75 (by decide) rfl
      rw [d12] at t75
      have hp := HP.out.later hC
      obtain ⟨_, _, _, c3, c4, c5, c6, c7, c8, c9⟩ := hp
      simp [execOp, go_sem, t75, c7]
      exact ⟨hC, Below.refl _ _, rfl⟩
    · refine ⟨rfl, fun v W ρ hC hc hf hs hi hd => ?_⟩
      have d13 : v 13 = .int .i64 p.seq := hd _ (Array.mem_of_getElem? (i := 0) rfl) rfl
      have t76 : ρ (.tmp 76) = v 13 := hs 13 76 (by decide) rfl
      rw [d13] at t76
      simp [execOp, go_sem, t76, hf]
      exact Calls.mono (l02Two_x _ _ (by assumption)) (fun e x h => ⟨_, h.1, hC.trans (h.2.mono hC.size), h.2, rfl⟩)
    · refine ⟨rfl, fun v W ρ hC hc hf hs hi hd => ?_⟩
      have d11 : v 11 = .string (rowT [p.kind, 0] ++ (twoT c) ++ (twoT p.a.toNat)) := hd _ (Array.mem_of_getElem? (i := 0) rfl) rfl
      have t74 : ρ (.tmp 74) = v 11 := hs 11 74 (by decide) rfl
      rw [d11] at t74
      have d14 : v 14 = .string (twoT p.seq.toNat) := hd _ (Array.mem_of_getElem? (i := 1) rfl) rfl
      have t77 : ρ (.tmp 77) = v 14 := hs 14 77 (by decide) rfl
      rw [d14] at t77
      simp [execOp, go_sem, t74, t77]
      first | exact ⟨hC, Below.refl _ _, rfl⟩ | (rw [if_neg (by omega)]; exact ⟨hC, Below.refl _ _, rfl⟩)
    · refine ⟨rfl, fun v W ρ hC hc hf hs hi hd => ?_⟩
      have t2 : ρ (.tmp 2) = .pointer (some ⟨w.heap.size, 0, none⟩) := hi 2 (by decide)
      simp [execOp, go_sem, t2]
      exact ⟨hC, Below.refl _ _, rfl⟩
    · refine ⟨rfl, fun v W ρ hC hc hf hs hi hd => ?_⟩
      have d16 : v 16 = .pointer (some ⟨w.heap.size, 9, none⟩) := hd _ (Array.mem_of_getElem? (i := 0) rfl) rfl
      have t79 : ρ (.tmp 79) = v 16 := hs 16 79 (by decide) rfl
      rw [d16] at t79
      have hp := HP.out.later hC
      obtain ⟨_, _, _, c3, c4, c5, c6, c7, c8, c9⟩ := hp
      simp [execOp, go_sem, t79, c9]
      exact ⟨hC, Below.refl _ _, rfl⟩
    · refine ⟨rfl, fun v W ρ hC hc hf hs hi hd => ?_⟩
      have d15 : v 15 = .string (rowT [p.kind, 0] ++ (twoT c) ++ (twoT p.a.toNat) ++ (twoT p.seq.toNat)) := hd _ (Array.mem_of_getElem? (i := 0) rfl) rfl
      have t78 : ρ (.tmp 78) = v 15 := hs 15 78 (by decide) rfl
      rw [d15] at t78
      have d17 : v 17 = .string p.body := hd _ (Array.mem_of_getElem? (i := 1) rfl) rfl
      have t80 : ρ (.tmp 80) = v 17 := hs 17 80 (by decide) rfl
      rw [d17] at t80
      simp [execOp, go_sem, t78, t80]
      first | exact ⟨hC, Below.refl _ _, rfl⟩ | (rw [if_neg (by omega)]; exact ⟨hC, Below.refl _ _, rfl⟩)
    · refine ⟨rfl, fun v W ρ hC hc hf hs hi hd => ?_⟩
      have d18 : v 18 = .string (rowT [p.kind, 0] ++ (twoT c) ++ (twoT p.a.toNat) ++ (twoT p.seq.toNat) ++ p.body) := hd _ (Array.mem_of_getElem? (i := 0) rfl) rfl
      have t81 : ρ (.tmp 81) = v 18 := hs 18 81 (by decide) rfl
      rw [d18] at t81
      simp [execOp, go_sem, t81]
      exact ⟨hC, Below.refl _ _, rfl⟩
  case fin =>
    intro v W hC hall
    have hL : v 19 = .string (rowT [p.kind, 0] ++ (twoT c) ++ (twoT p.a.toNat) ++ (twoT p.seq.toNat) ++ p.body) := hall 19 (by decide)
    simp [upto, Act.put]
    rw [hL]
    clear hall hL
    have hE := hidS (hB1.out.trans (hC.mono hB1.out.size))
    go_wp2
    go_ret
    exact ⟨by unfold tailT; rw [if_neg (by rw [H1.out]; decide), if_neg (by rw [H1.out]; decide), if_neg H3.out]; rfl, hE.out⟩
end Go.Proofs.YthfhbmiddillbagDoor
end

section
namespace Go.Proofs.YthfhbmiddillbagDoor
open Go.ChangeShapes Go.WideShapes Go.ChangeAt Go.RowKit
set_option linter.unusedVariables false
set_option maxRecDepth 100000

/-- what a right packet's numbers are within -/
structure Fine (p : Pk) : Prop where
  src : addrB p.src = true
  dst : addrB p.dst = true
  proto : p.proto = 6 ∨ p.proto = 17 ∨ p.proto = 1
  a : wordB p.a = true
  b : wordB p.b = true
  flags : flagB p.flags = true
  seq : addrB p.seq = true
  seqW : p.proto = 1 → wordB p.seq = true
  ack : addrB p.ack = true
  kind0 : 0 ≤ p.kind
  kind1 : p.kind ≤ 8
  body : p.body.size ≤ 100
theorem word_addr {z : Int} (h : wordB z = true) : addrB z = true := addrB_iff.2 (by have := wordB_iff.1 h; omega)
theorem fine_of {p : Pk} (h : rightB p = true) : Fine p := by
  unfold rightB at h
  simp only [Bool.and_eq_true, decide_eq_true_eq] at h
  obtain ⟨⟨⟨h1, h2⟩, h3⟩, h4⟩ := h
  have z0 : wordB 0 = true := rfl
  have y0 : addrB 0 = true := rfl
  have x0 : flagB 0 = true := rfl
  by_cases p6 : p.proto = 6
  · rw [if_pos p6] at h4
    simp only [tcpB, Bool.and_eq_true, decide_eq_true_eq] at h4
    obtain ⟨⟨⟨⟨⟨ha, hb⟩, hk⟩, hf⟩, hq⟩, hc⟩ := h4
    exact ⟨h1, h2, .inl p6, ha, hb, hf, hq, fun e => absurd (p6.symm.trans e) (by decide), hc, by omega, by omega, h3⟩
  · rw [if_neg p6] at h4
    by_cases p17 : p.proto = 17
    · rw [if_pos p17] at h4
      simp only [udpB, Bool.and_eq_true, decide_eq_true_eq] at h4
      obtain ⟨⟨⟨⟨⟨ha, hb⟩, hk⟩, hf⟩, hq⟩, hc⟩ := h4
      exact ⟨h1, h2, .inr (.inl p17), ha, hb, by rw [hf]; rfl, by rw [hq]; rfl, fun e => absurd (p17.symm.trans e) (by decide), by rw [hc]; rfl, by omega, by omega, h3⟩
    · rw [if_neg p17] at h4
      by_cases p1 : p.proto = 1
      · rw [if_pos p1] at h4
        simp only [pingB, Bool.and_eq_true, decide_eq_true_eq] at h4
        obtain ⟨⟨⟨hb, hf⟩, hc⟩, hr⟩ := h4
        by_cases k3 : p.kind = 3
        · rw [if_pos k3] at hr
          simp only [Bool.and_eq_true, decide_eq_true_eq] at hr
          obtain ⟨⟨ha, hq⟩, hz⟩ := hr
          exact ⟨h1, h2, .inr (.inr p1), by rw [ha]; rfl, by rw [hb]; rfl, by rw [hf]; rfl, by rw [hq]; rfl, fun _ => by rw [hq]; rfl, by rw [hc]; rfl, by omega, by omega, h3⟩
        · rw [if_neg k3] at hr
          simp only [Bool.and_eq_true, Bool.or_eq_true, decide_eq_true_eq] at hr
          obtain ⟨⟨hk, ha⟩, hq⟩ := hr
          exact ⟨h1, h2, .inr (.inr p1), ha, by rw [hb]; rfl, by rw [hf]; rfl, word_addr hq, fun _ => hq, by rw [hc]; rfl, by omega, by omega, h3⟩
      · rw [if_neg p1] at h4; cases h4
theorem Fine.small {p : Pk} (h : Fine p) (c : Nat) : (tailT p c).size ≤ 120 := by
  have hb := h.body
  unfold tailT
  split
  · simp only [ByteArray.size_append, twoT_size, fourT_size, rowT_size, List.length_cons, List.length_nil]
    have : (⟨#[0, 0]⟩ : ByteArray).size = 2 := rfl
    omega
  · split
    · simp only [ByteArray.size_append, twoT_size]; omega
    · split <;> simp only [ByteArray.size_append, twoT_size, rowT_size, List.length_cons, List.length_nil] <;> omega

theorem l03Tail_any (p : Pk) (c : Nat) (w : World) (h : Fine p) (hc : c ≤ 65535) :
    Calls Tryd.prog 39 #[.agg #[.int .i64 p.src, .int .i64 p.dst, .int .i64 p.proto, .int .i64 p.a, .int .i64 p.b, .int .i64 p.kind, .int .i64 p.flags, .int .i64 p.seq, .int .i64 p.ack, .string p.body], .int .i64 (c : Int)] w fun e w' => e = .returned (.string (tailT p c)) ∧ Below w.heap.size w w' := by
  have hb := h.body
  rcases h.proto with h6 | h17 | h1
  · exact l03Tail_tcp p c w h6 hc h.a h.b h.flags h.seq h.ack (by omega)
  · exact l03Tail_udp p c w h17 hc h.a h.b (by omega)
  · have := h.kind1
    by_cases h3 : p.kind = 3
    · exact l03Tail_err p c w h1 hc h.a (h.seqW h1) h.kind0 (by omega) h3 (by omega)
    · exact l03Tail_echo p c w h1 hc h.a (h.seqW h1) h.kind0 (by omega) h3 (by omega)
end Go.Proofs.YthfhbmiddillbagDoor
end

section
namespace Go.Proofs.YthfhbmiddillbagDoor
open Go.ChangeShapes Go.WideShapes Go.ChangeAt Go.RowKit
set_option linter.unusedVariables false
set_option maxRecDepth 100000
set_option linter.unusedSimpArgs false

/-- the head, with a check, of a packet with so many bytes behind it -/
def headT (p : Pk) (n : Nat) (c : Int) : ByteArray := (⟨#[69, 0]⟩ : ByteArray) ++ twoT (20 + (n : Int)).toNat ++ rowT [0, 0, 0, 0, 64, p.proto] ++ twoT c.toNat ++ fourT p.src.toNat ++ fourT p.dst.toNat
theorem headT_size (p : Pk) (n : Nat) (c : Int) : (headT p n c).size = 20 := by
  unfold headT
  simp only [ByteArray.size_append, twoT_size, fourT_size, rowT_size, List.length_cons, List.length_nil]
  rfl

set_option maxHeartbeats 4000000 in
theorem l03Head_any (p : Pk) (n : Nat) (c : Int) (w : World) (hs1 : addrB p.src = true) (hs2 : addrB p.dst = true) (hp1 : 0 ≤ p.proto) (hp2 : p.proto ≤ 255) (hn : n ≤ 1000) (hc : wordB c = true) :
    Calls Tryd.prog 28 #[.agg #[.int .i64 p.src, .int .i64 p.dst, .int .i64 p.proto, .int .i64 p.a, .int .i64 p.b, .int .i64 p.kind, .int .i64 p.flags, .int .i64 p.seq, .int .i64 p.ack, .string p.body], .int .i64 (n : Int), .int .i64 c] w fun e w' => e = .returned (.string (headT p n c)) ∧ Below w.heap.size w w' := by
  have z0 : (⟨#[69, 0]⟩ : ByteArray).size = 2 := rfl
  have z1 := twoT_size (20 + (n : Int)).toNat
  have z2 : (rowT [0, 0, 0, 0, 64, p.proto]).size = 6 := rowT_size _
  have z3 := twoT_size c.toNat
  have z4 := fourT_size p.src.toNat
  have z5 := fourT_size p.dst.toNat
  have hw20 : wordB (20 + (n : Int)) = true := wordB_iff.2 ⟨by omega, by omega⟩
  have hwz : IntKind.i64.wrap (20 + (n : Int)) = 20 + (n : Int) := IntWalk.i64_in _ (by omega)
  have hwf : IntKind.u8.wrap p.proto = p.proto := IntWalk.u8_in _ (by omega)
  have HP := hidS (PkAt.new p w)
  have hB1 := hidS ((Below.refl w.heap.size w).alloc (Nat.le_refl _) (.cells #[.int .i64 p.src, .int .i64 p.dst, .int .i64 p.proto, .int .i64 p.a, .int .i64 p.b, .int .i64 p.kind, .int .i64 p.flags, .int .i64 p.seq, .int .i64 p.ack, .string p.body] 30))
  go_enter Tryd.func28, Tryd.ntmps28
  go_wp2_with fail
  generalize w.alloc (.cells #[.int .i64 p.src, .int .i64 p.dst, .int .i64 p.proto, .int .i64 p.a, .int .i64 p.b, .int .i64 p.kind, .int .i64 p.flags, .int .i64 p.seq, .int .i64 p.ack, .string p.body] 30) = w1 at HP hB1 ⊢
  refine grow_kinds 22 [.is (.int .i64 (n : Int)), .is (.int .i64 (20 + (n : Int))), .is (.string (twoT (20 + (n : Int)).toNat)), .is (.string ((⟨#[69, 0]⟩ : ByteArray) ++ (twoT (20 + (n : Int)).toNat))), .is (.pointer (some ⟨w.heap.size, 2, none⟩)), .is (.int .i64 p.proto), .is (.int .u8 p.proto), .row (rowL [0, 0, 0, 0, 64, p.proto]), .is (.string (rowT [0, 0, 0, 0, 64, p.proto])), .is (.string ((⟨#[69, 0]⟩ : ByteArray) ++ (twoT (20 + (n : Int)).toNat) ++ (rowT [0, 0, 0, 0, 64, p.proto]))), .is (.int .i64 c), .is (.string (twoT c.toNat)), .is (.string ((⟨#[69, 0]⟩ : ByteArray) ++ (twoT (20 + (n : Int)).toNat) ++ (rowT [0, 0, 0, 0, 64, p.proto]) ++ (twoT c.toNat))), .is (.pointer (some ⟨w.heap.size, 0, none⟩)), .is (.int .i64 p.src), .is (.string (fourT p.src.toNat)), .is (.string ((⟨#[69, 0]⟩ : ByteArray) ++ (twoT (20 + (n : Int)).toNat) ++ (rowT [0, 0, 0, 0, 64, p.proto]) ++ (twoT c.toNat) ++ (fourT p.src.toNat))), .is (.pointer (some ⟨w.heap.size, 1, none⟩)), .is (.int .i64 p.dst), .is (.string (fourT p.dst.toNat)), .is (.string ((⟨#[69, 0]⟩ : ByteArray) ++ (twoT (20 + (n : Int)).toNat) ++ (rowT [0, 0, 0, 0, 64, p.proto]) ++ (twoT c.toNat) ++ (fourT p.src.toNat) ++ (fourT p.dst.toNat))), .is (.string ((⟨#[69, 0]⟩ : ByteArray) ++ (twoT (20 + (n : Int)).toNat) ++ (rowT [0, 0, 0, 0, 64, p.proto]) ++ (twoT c.toNat) ++ (fourT p.src.toNat) ++ (fourT p.dst.toNat)))] rfl (by kernel_rfl) (by kernel_rfl) ?steps ?fin
  case steps =>
    refine ⟨?_, ?_, ?_, ?_, ?_, ?_, ?_, ?_, ?_, ?_, ?_, ?_, ?_, ?_, ?_, ?_, ?_, ?_, ?_, ?_, ?_, ?_, trivial⟩
    · refine ⟨rfl, fun v W ρ hC hc hf hs hi hd => ?_⟩
      have t1 : ρ (.tmp 1) = .int .i64 (n : Int) := hi 1 (by decide)
      simp [execOp, go_sem, t1]
      exact ⟨hC, Below.refl _ _, rfl⟩
    · refine ⟨rfl, fun v W ρ hC hc hf hs hi hd => ?_⟩
      have d0 : v 0 = .int .i64 (n : Int) := hd _ (Array.mem_of_getElem? (i := 0) rfl) rfl
      have t7 : ρ (.tmp 7) = v 0 := hs 0 7 (by decide) rfl
      rw [d0] at t7
      simp [execOp, go_sem, t7, hwz, hc]
      exact ⟨hC, Below.refl _ _, rfl⟩
    · refine ⟨rfl, fun v W ρ hC hc hf hs hi hd => ?_⟩
      have d1 : v 1 = .int .i64 (20 + (n : Int)) := hd _ (Array.mem_of_getElem? (i := 0) rfl) rfl
      have t8 : ρ (.tmp 8) = v 1 := hs 1 8 (by decide) rfl
      rw [d1] at t8
      simp [execOp, go_sem, t8, hf]
      exact Calls.mono (l02Two_x _ _ (by assumption)) (fun e x h => ⟨_, h.1, hC.trans (h.2.mono hC.size), h.2, rfl⟩)
    · refine ⟨rfl, fun v W ρ hC hc hf hs hi hd => ?_⟩
      have d2 : v 2 = .string (twoT (20 + (n : Int)).toNat) := hd _ (Array.mem_of_getElem? (i := 0) rfl) rfl
      have t9 : ρ (.tmp 9) = v 2 := hs 2 9 (by decide) rfl
      rw [d2] at t9
      simp [execOp, go_sem, t9, hc]
      first | exact ⟨hC, Below.refl _ _, rfl⟩ | (rw [if_neg (by omega)]; exact ⟨hC, Below.refl _ _, rfl⟩)
    · refine ⟨rfl, fun v W ρ hC hc hf hs hi hd => ?_⟩
      have t3 : ρ (.tmp 3) = .pointer (some ⟨w.heap.size, 0, none⟩) := hi 3 (by decide)
      simp [execOp, go_sem, t3]
      exact ⟨hC, Below.refl _ _, rfl⟩
    · refine ⟨rfl, fun v W ρ hC hc hf hs hi hd => ?_⟩
      have d4 : v 4 = .pointer (some ⟨w.heap.size, 2, none⟩) := hd _ (Array.mem_of_getElem? (i := 0) rfl) rfl
      have t11 : ρ (.tmp 11) = v 4 := hs 4 11 (by decide) rfl
      rw [d4] at t11
      have hp := HP.out.later hC
      obtain ⟨c0, c1, c2, c3, c4, c5, c6, c7, c8, c9⟩ := hp
      simp [execOp, go_sem, t11, c2]
      exact ⟨hC, Below.refl _ _, rfl⟩
    · refine ⟨rfl, fun v W ρ hC hc hf hs hi hd => ?_⟩
      have d5 : v 5 = .int .i64 p.proto := hd _ (Array.mem_of_getElem? (i := 0) rfl) rfl
      have t12 : ρ (.tmp 12) = v 5 := hs 5 12 (by decide) rfl
      rw [d5] at t12
      simp [execOp, go_sem, t12, hwf]
      exact ⟨hC, Below.refl _ _, rfl⟩
    · refine ⟨rfl, fun v W ρ hC hc hf hs hi hd => ?_⟩
      have d6 : v 6 = .int .u8 p.proto := hd _ (Array.mem_of_getElem? (i := 0) rfl) rfl
      have t13 : ρ (.tmp 13) = v 6 := hs 6 13 (by decide) rfl
      rw [d6] at t13
      simp [execOp, go_sem, t13, hc]
      exact ⟨hC.alloc hC.size _, (Below.refl _ _).alloc (Nat.le_refl _) _, W.heap.size, rfl, row_at [0, 0, 0, 0, 64, p.proto] (by simp; omega)⟩
    · refine ⟨rfl, fun v W ρ hC hc hf hs hi hd => ?_⟩
      obtain ⟨B7, e7, hB7⟩ : ∃ B, v 7 = .slice (some ⟨B, 0, none⟩) (rowL [0, 0, 0, 0, 64, p.proto]).length (rowL [0, 0, 0, 0, 64, p.proto]).length ∧ BytesAt B (rowL [0, 0, 0, 0, 64, p.proto]) W := hd _ (Array.mem_of_getElem? (i := 0) rfl) rfl
      have t14 : ρ (.tmp 14) = v 7 := hs 7 14 (by decide) rfl
      rw [e7] at t14
      have hcv := BytesAt.conv (rowL [0, 0, 0, 0, 64, p.proto]).length hB7
      simp [execOp, go_sem, t14, hcv]
      exact ⟨hC, Below.refl _ _, rfl⟩
    · refine ⟨rfl, fun v W ρ hC hc hf hs hi hd => ?_⟩
      have d3 : v 3 = .string ((⟨#[69, 0]⟩ : ByteArray) ++ (twoT (20 + (n : Int)).toNat)) := hd _ (Array.mem_of_getElem? (i := 0) rfl) rfl
      have t10 : ρ (.tmp 10) = v 3 := hs 3 10 (by decide) rfl
      rw [d3] at t10
      have d8 : v 8 = .string (rowT [0, 0, 0, 0, 64, p.proto]) := hd _ (Array.mem_of_getElem? (i := 1) rfl) rfl
      have t15 : ρ (.tmp 15) = v 8 := hs 8 15 (by decide) rfl
      rw [d8] at t15
      simp [execOp, go_sem, t10, t15]
      first | exact ⟨hC, Below.refl _ _, rfl⟩ | (rw [if_neg (by omega)]; exact ⟨hC, Below.refl _ _, rfl⟩)
    · refine ⟨rfl, fun v W ρ hC hc hf hs hi hd => ?_⟩
      have t2 : ρ (.tmp 2) = .int .i64 c := hi 2 (by decide)
      simp [execOp, go_sem, t2]
      exact ⟨hC, Below.refl _ _, rfl⟩
    · refine ⟨rfl, fun v W ρ hC hc hf hs hi hd => ?_⟩
      have d10 : v 10 = .int .i64 c := hd _ (Array.mem_of_getElem? (i := 0) rfl) rfl
      have t17 : ρ (.tmp 17) = v 10 := hs 10 17 (by decide) rfl
      rw [d10] at t17
      simp [execOp, go_sem, t17, hf]
      exact Calls.mono (l02Two_x _ _ (by assumption)) (fun e x h => ⟨_, h.1, hC.trans (h.2.mono hC.size), h.2, rfl⟩)
    · refine ⟨rfl, fun v W ρ hC hc hf hs hi hd => ?_⟩
      have d9 : v 9 = .string ((⟨#[69, 0]⟩ : ByteArray) ++ (twoT (20 + (n : Int)).toNat) ++ (rowT [0, 0, 0, 0, 64, p.proto])) := hd _ (Array.mem_of_getElem? (i := 0) rfl) rfl
      have t16 : ρ (.tmp 16) = v 9 := hs 9 16 (by decide) rfl
      rw [d9] at t16
      have d11 : v 11 = .string (twoT c.toNat) := hd _ (Array.mem_of_getElem? (i := 1) rfl) rfl
      have t18 : ρ (.tmp 18) = v 11 := hs 11 18 (by decide) rfl
      rw [d11] at t18
      simp [execOp, go_sem, t16, t18]
      first | exact ⟨hC, Below.refl _ _, rfl⟩ | (rw [if_neg (by omega)]; exact ⟨hC, Below.refl _ _, rfl⟩)
    · refine ⟨rfl, fun v W ρ hC hc hf hs hi hd => ?_⟩
      have t3 : ρ (.tmp 3) = .pointer (some ⟨w.heap.size, 0, none⟩) := hi 3 (by decide)
      simp [execOp, go_sem, t3]
      exact ⟨hC, Below.refl _ _, rfl⟩
    · refine ⟨rfl, fun v W ρ hC hc hf hs hi hd => ?_⟩
      have d13 : v 13 = .pointer (some ⟨w.heap.size, 0, none⟩) := hd _ (Array.mem_of_getElem? (i := 0) rfl) rfl
      have t20 : ρ (.tmp 20) = v 13 := hs 13 20 (by decide) rfl
      rw [d13] at t20
      have hp := HP.out.later hC
      obtain ⟨c0, c1, c2, c3, c4, c5, c6, c7, c8, c9⟩ := hp
      simp [execOp, go_sem, t20, c0]
      exact ⟨hC, Below.refl _ _, rfl⟩
    · refine ⟨rfl, fun v W ρ hC hc hf hs hi hd => ?_⟩
      have d14 : v 14 = .int .i64 p.src := hd _ (Array.mem_of_getElem? (i := 0) rfl) rfl
      have t21 : ρ (.tmp 21) = v 14 := hs 14 21 (by decide) rfl
      rw [d14] at t21
      simp [execOp, go_sem, t21, hf]
      exact Calls.mono (l03Four_x _ _ (by assumption)) (fun e x h => ⟨_, h.1, hC.trans (h.2.mono hC.size), h.2, rfl⟩)
    · refine ⟨rfl, fun v W ρ hC hc hf hs hi hd => ?_⟩
      have d12 : v 12 = .string ((⟨#[69, 0]⟩ : ByteArray) ++ (twoT (20 + (n : Int)).toNat) ++ (rowT [0, 0, 0, 0, 64, p.proto]) ++ (twoT c.toNat)) := hd _ (Array.mem_of_getElem? (i := 0) rfl) rfl
      have t19 : ρ (.tmp 19) = v 12 := hs 12 19 (by decide) rfl
      rw [d12] at t19
      have d15 : v 15 = .string (fourT p.src.toNat) := hd _ (Array.mem_of_getElem? (i := 1) rfl) rfl
      have t22 : ρ (.tmp 22) = v 15 := hs 15 22 (by decide) rfl
      rw [d15] at t22
      simp [execOp, go_sem, t19, t22]
      first | exact ⟨hC, Below.refl _ _, rfl⟩ | (rw [if_neg (by omega)]; exact ⟨hC, Below.refl _ _, rfl⟩)
    · refine ⟨rfl, fun v W ρ hC hc hf hs hi hd => ?_⟩
      have t3 : ρ (.tmp 3) = .pointer (some ⟨w.heap.size, 0, none⟩) := hi 3 (by decide)
      simp [execOp, go_sem, t3]
      exact ⟨hC, Below.refl _ _, rfl⟩
    · refine ⟨rfl, fun v W ρ hC hc hf hs hi hd => ?_⟩
      have d17 : v 17 = .pointer (some ⟨w.heap.size, 1, none⟩) := hd _ (Array.mem_of_getElem? (i := 0) rfl) rfl
      have t24 : ρ (.tmp 24) = v 17 := hs 17 24 (by decide) rfl
      rw [d17] at t24
      have hp := HP.out.later hC
      obtain ⟨c0, c1, c2, c3, c4, c5, c6, c7, c8, c9⟩ := hp
      simp [execOp, go_sem, t24, c1]
      exact ⟨hC, Below.refl _ _, rfl⟩
    · refine ⟨rfl, fun v W ρ hC hc hf hs hi hd => ?_⟩
      have d18 : v 18 = .int .i64 p.dst := hd _ (Array.mem_of_getElem? (i := 0) rfl) rfl
      have t25 : ρ (.tmp 25) = v 18 := hs 18 25 (by decide) rfl
      rw [d18] at t25
      simp [execOp, go_sem, t25, hf]
      exact Calls.mono (l03Four_x _ _ (by assumption)) (fun e x h => ⟨_, h.1, hC.trans (h.2.mono hC.size), h.2, rfl⟩)
    · refine ⟨rfl, fun v W ρ hC hc hf hs hi hd => ?_⟩
      have d16 : v 16 = .string ((⟨#[69, 0]⟩ : ByteArray) ++ (twoT (20 + (n : Int)).toNat) ++ (rowT [0, 0, 0, 0, 64, p.proto]) ++ (twoT c.toNat) ++ (fourT p.src.toNat)) := hd _ (Array.mem_of_getElem? (i := 0) rfl) rfl
      have t23 : ρ (.tmp 23) = v 16 := hs 16 23 (by decide) rfl
      rw [d16] at t23
      have d19 : v 19 = .string (fourT p.dst.toNat) := hd _ (Array.mem_of_getElem? (i := 1) rfl) rfl
      have t26 : ρ (.tmp 26) = v 19 := hs 19 26 (by decide) rfl
      rw [d19] at t26
      simp [execOp, go_sem, t23, t26]
      first | exact ⟨hC, Below.refl _ _, rfl⟩ | (rw [if_neg (by omega)]; exact ⟨hC, Below.refl _ _, rfl⟩)
    · refine ⟨rfl, fun v W ρ hC hc hf hs hi hd => ?_⟩
      have d20 : v 20 = .string ((⟨#[69, 0]⟩ : ByteArray) ++ (twoT (20 + (n : Int)).toNat) ++ (rowT [0, 0, 0, 0, 64, p.proto]) ++ (twoT c.toNat) ++ (fourT p.src.toNat) ++ (fourT p.dst.toNat)) := hd _ (Array.mem_of_getElem? (i := 0) rfl) rfl
      have t27 : ρ (.tmp 27) = v 20 := hs 20 27 (by decide) rfl
      rw [d20] at t27
      simp [execOp, go_sem, t27]
      exact ⟨hC, Below.refl _ _, rfl⟩
  case fin =>
    intro v W hC hall
    have hL6 : v 21 = .string ((⟨#[69, 0]⟩ : ByteArray) ++ (twoT (20 + (n : Int)).toNat) ++ (rowT [0, 0, 0, 0, 64, p.proto]) ++ (twoT c.toNat) ++ (fourT p.src.toNat) ++ (fourT p.dst.toNat)) := hall 21 (by decide)
    simp [upto, Act.put]
    rw [hL6]
    clear hall hL6
    have hE := hidS (hB1.out.trans (hC.mono hB1.out.size))
    go_wp2
    go_ret
    exact ⟨rfl, hE.out⟩
end Go.Proofs.YthfhbmiddillbagDoor
end

section
namespace Go.Proofs.YthfhbmiddillbagDoor
open Go.ChangeShapes Go.WideShapes Go.ChangeAt Go.RowKit
open Go.ChangeMaps (open_string shut_string)
set_option linter.unusedVariables false

theorem wordAt_any (s : ByteArray) (k : Nat) (w : World) (hk : 2 * k < s.size) (hs : s.size ≤ 100000) :
    Calls Tryd.prog 116 #[.string s, .int .i64 k] w fun e w' => e = .returned (.int .i64 (wordN s.data.toList k : Nat)) ∧ w' = w := by
  have hk' : 2 * (k : Int) < (s.size : Int) := by omega
  have hs' : (s.size : Int) ≤ 100000 := by omega
  have b1 : s[2 * k].toNat < 256 := s[2 * k].toNat_lt
  by_cases h : 2 * k + 1 < s.size
  · have hw : Hid (bits BinOp.or IntKind.i64 ((s[2 * k].toNat : Int) * 256) (s[2 * k + 1].toNat : Int) = ((wordN s.data.toList k : Nat) : Int)) := by
      rw [i64_join8 _ _ b1 s[2 * k + 1].toNat_lt, wordN_two _ _ (by simpa using h)]; rfl
    have h' : 2 * (k : Int) + 1 < (s.size : Int) := by omega
    go_enter Tryd.func116, Tryd.ntmps116
    go_wp2
    go_ret
    exact ⟨ret_intS (by rw [w64_small s[2 * k + 1].toNat_lt]; exact hw.out), rfl⟩
  · have hw : Hid ((s[2 * k].toNat : Int) * 256 = ((wordN s.data.toList k : Nat) : Int)) := by
      rw [wordN_one _ _ (by simp; omega)]; show _ = ((256 * s[2 * k].toNat : Nat) : Int); omega
    have h' : ¬ 2 * (k : Int) + 1 < (s.size : Int) := by omega
    go_enter Tryd.func116, Tryd.ntmps116
    go_wp2
    go_ret
    exact ⟨ret_intS hw.out, rfl⟩
theorem rawSum_take_le (l : List UInt8) (k : Nat) : rawSum (l.take (2 * k)) ≤ rawSum l := by
  by_cases h : 2 * k ≤ l.length
  · have := rawSum_app k (l.take (2 * k)) (l.drop (2 * k)) (by simp; omega)
    rw [List.take_append_drop] at this
    omega
  · rw [List.take_of_length_le (by omega)]; exact Nat.le_refl _
/-- the words of several texts added up -/
def rawAll (ts : List ByteArray) : Nat := (ts.map fun t => rawSum t.data.toList).sum
theorem rawAll_snoc (ts : List ByteArray) (t : ByteArray) : rawAll (ts ++ [t]) = rawAll ts + rawSum t.data.toList := by simp [rawAll]
theorem rawAll_le (n : Nat) (ts : List ByteArray) (h : ∀ t ∈ ts, t.size ≤ 100000) (hl : ts.length ≤ n) : rawAll ts ≤ 6553500000 * n := by
  induction ts generalizing n with
  | nil => simp [rawAll]
  | cons t ts ih =>
    cases n with
    | zero => simp at hl
    | succ n =>
      have h1 := ih n (fun x hx => h x (List.mem_cons_of_mem _ hx)) (by simpa using hl)
      have h2 := rawSum_le t.data.toList.length t.data.toList (Nat.le_refl _)
      have h3 := h t List.mem_cons_self
      have h4 : t.data.toList.length = t.size := by simp
      have e : rawAll (t :: ts) = rawSum t.data.toList + rawAll ts := by simp [rawAll]
      rw [e]
      omega
set_option maxHeartbeats 1000000 in
theorem sumTexts_any (g : Nat) (ts : List ByteArray) (w : World) (hc : ∀ j, (h : j < ts.length) → w.cell? ⟨g, j, none⟩ = some (.string ts[j])) (hl : ts.length ≤ 1000) (hs : ∀ t ∈ ts, t.size ≤ 100000) :
    Calls Tryd.prog 111 #[.slice (some ⟨g, 0, none⟩) ts.length ts.length] w fun e w' => e = .returned (.int .i64 (foldN (rawAll ts) : Nat)) ∧ w' = w := by
  have HC := hidS hc
  have HS := hidS hs
  clear hc hs
  go_enter Tryd.func111, Tryd.ntmps111
  go_wp2
  go_loop [3, 9] (fun v i => ∃ k x : Nat, k ≤ ts.length ∧ i = .int .i64 k ∧ v = .int .i64 x ∧ (x : Int) ≤ 6553500000000 ∧ Hid (x = rawAll (ts.take k))) (fun _ i => ts.length - (intOf i).toNat)
  case atStart => exact ⟨0, 0, by omega, rfl, rfl, by omega, rfl⟩
  case round =>
    obtain ⟨k, x, hk, rfl, rfl, hx, hX⟩ := hrel
    by_cases h : k < ts.length
    · have h' : (k : Int) < (ts.length : Int) := by omega
      have hck := HC.out k h
      have hsz := HS.out _ (List.getElem_mem h)
      have hE : Hid (x + rawSum ts[k].data.toList = rawAll (ts.take (k + 1))) := by rw [List.take_succ_eq_append_getElem h, rawAll_snoc, ← hX.out]; rfl
      have hL : rawAll (ts.take (k + 1)) ≤ 6553500000000 := rawAll_le 1000 _ (fun t ht => HS.out t (List.mem_of_mem_take ht)) (by simp; omega)
      have hL' : x + rawSum ts[k].data.toList ≤ 6553500000000 := by rw [hE.out]; exact hL
      generalize ts[k] = t at *
      clear hX hL
      have hm : ((t.size : Int) + 1) / 2 = (((t.size + 1) / 2 : Nat) : Int) := by omega
      obtain ⟨M, hM⟩ : ∃ M, M = (t.size + 1) / 2 := ⟨_, rfl⟩
      rw [← hM] at hm
      have HM := hidS hM
      clear hM
      go_wp2
      go_loop [3, 17] (fun v i => ∃ j y : Nat, j ≤ M ∧ i = .int .i64 j ∧ v = .int .i64 y ∧ (y : Int) ≤ 6553500000000 ∧ Hid (y = x + rawSum (t.data.toList.take (2 * j)))) (fun _ i => M - (intOf i).toNat)
      case atStart => exact ⟨0, x, by omega, rfl, rfl, by omega, rfl⟩
      case round =>
        obtain ⟨j, y, hj, rfl, rfl, hy, hY⟩ := hrel
        by_cases hlt : j < M
        · have hlt' : (j : Int) < (M : Int) := by omega
          have h2 : 2 * j < t.size := by have := HM.out; omega
          have hY2 := rawSum_word t.data.toList j (by simpa using h2)
          have hw := wordN_le t.data.toList j
          have hle := rawSum_take_le t.data.toList (j + 1)
          have hYE : Hid (y + wordN t.data.toList j = x + rawSum (t.data.toList.take (2 * (j + 1)))) := by rw [hY2, hY.out]; exact Nat.add_assoc _ _ _
          have hyl : y + wordN t.data.toList j ≤ 6553500000000 := by rw [hYE.out]; omega
          clear hY hY2 hle
          go_wp2_with (go_at_call 116; refine (wordAt_any t j _ h2 hsz).mono ?_; rintro e w' ⟨rfl, rfl⟩)
          go_round
          case rel => exact ⟨j + 1, y + wordN t.data.toList j, by omega, by go_num, by go_num, by omega, hYE⟩
          case measure => simp [intOf]; omega
        · have hE2 : Hid (y = x + rawSum t.data.toList) := by have := hY.out; rw [List.take_of_length_le (by have := HM.out; simp; omega)] at this; exact this
          have hlt' : ¬ (j : Int) < (M : Int) := by omega
          clear hY
          go_wp2
          go_round
          case rel => exact ⟨k + 1, y, by omega, by go_num, rfl, by omega, by rw [hE2.out]; exact hE⟩
          case measure => simp [intOf]; omega
    · have hE : Hid (x = rawAll ts) := by have := hX.out; rw [List.take_of_length_le (by omega)] at this; exact this
      have h' : ¬ (k : Int) < (ts.length : Int) := by omega
      clear hX
      go_wp2_with (go_at_call 117; refine (foldSum_any x _ (by omega)).mono ?_; rintro e w' ⟨rfl, rfl⟩)
      go_ret
      exact ⟨ret_intS (by rw [hE.out]), rfl⟩
set_option maxHeartbeats 1000000 in
theorem specSumOf_any (s : ByteArray) (w : World) (hs : s.size ≤ maxLen) :
    Calls Tryd.prog 69 #[.string s] w fun e w' => e = .returned (.int .i64 (sumAns s : Nat)) ∧ w' = w := by
  have hs' : s.size ≤ 2 ^ 63 - 1 := hs
  by_cases h1 : 8000 < s.size
  · have e : sumAns s = 0 := if_pos h1
    rw [e]
    go_enter Tryd.func69, Tryd.ntmps69
    go_wp2
    go_ret
    exact ⟨rfl, rfl⟩
  · have e : sumAns s = foldN (rawSum s.data.toList) := if_neg h1
    rw [e]
    clear e
    go_enter Tryd.func69, Tryd.ntmps69
    go_wp2
    go_loop [3, 4] (fun v i => ∃ k x : Nat, 2 * k ≤ s.size + 1 ∧ i = .int .i64 (2 * k : Nat) ∧ v = .int .i64 x ∧ (x : Int) ≤ 65535 * 8000 ∧ Hid (x = rawSum (s.data.toList.take (2 * k)))) (fun _ i => s.size + 1 - (intOf i).toNat)
    case atStart => exact ⟨0, 0, by omega, rfl, rfl, by omega, rfl⟩
    case round =>
      obtain ⟨k, x, hk, rfl, rfl, hx, hX⟩ := hrel
      by_cases h : 2 * k < s.size
      · have h' : ((2 * k : Nat) : Int) < (s.size : Int) := by omega
        have hY2 := rawSum_word s.data.toList k (by simpa using h)
        have hle := rawSum_take_le s.data.toList (k + 1)
        have hle2 := rawSum_le s.data.toList.length s.data.toList (Nat.le_refl _)
        have hle3 : s.data.toList.length = s.size := by simp
        have hYE : Hid (x + wordN s.data.toList k = rawSum (s.data.toList.take (2 * (k + 1)))) := by rw [hY2, hX.out]; rfl
        have hyl : x + wordN s.data.toList k ≤ 65535 * 8000 := by rw [hYE.out]; omega
        have b1 : s[2 * k].toNat < 256 := s[2 * k].toNat_lt
        clear hX hY2 hle hle2 hle3
        by_cases h2 : 2 * k + 1 < s.size
        · have h2' : ((2 * k : Nat) : Int) + 1 < (s.size : Int) := by omega
          have hw : Hid (wordN s.data.toList k = 256 * s[2 * k].toNat + s[2 * k + 1].toNat) := wordN_two _ _ (by simpa using h2)
          have b2 : s[2 * k + 1].toNat < 256 := s[2 * k + 1].toNat_lt
          go_wp2
          go_round
          case rel => exact ⟨k + 1, x + wordN s.data.toList k, by omega, by go_num, by rw [hw.out]; go_num, by omega, hYE⟩
          case measure => simp [intOf]; omega
        · have h2' : ¬ ((2 * k : Nat) : Int) + 1 < (s.size : Int) := by omega
          have hw : Hid (wordN s.data.toList k = 256 * s[2 * k].toNat) := wordN_one _ _ (by simp; omega)
          go_wp2
          go_round
          case rel => exact ⟨k + 1, x + wordN s.data.toList k, by omega, by go_num, by rw [hw.out]; go_num, by omega, hYE⟩
          case measure => simp [intOf]; omega
      · have h' : ¬ ((2 * k : Nat) : Int) < (s.size : Int) := by omega
        have hE : Hid (x = rawSum s.data.toList) := by have := hX.out; rw [List.take_of_length_le (by simp; omega)] at this; exact this
        clear hX
        go_wp2_with (go_at_call 90; refine (l02Fold_any x _ (by omega)).mono ?_; rintro e w' ⟨rfl, rfl⟩)
        go_ret
        exact ⟨ret_intS (by rw [hE.out]), rfl⟩
theorem implSumOf_any (s : ByteArray) (w : World) (hs : s.size ≤ maxLen) :
    Calls Tryd.prog 110 #[.string s] w fun e w' => e = .returned (.int .i64 (sumAns s : Nat)) ∧ Below w.heap.size w w' := by
  have hs' : s.size ≤ 2 ^ 63 - 1 := hs
  by_cases h1 : 8000 < s.size
  · have e : sumAns s = 0 := if_pos h1
    rw [e]
    go_enter Tryd.func110, Tryd.ntmps110
    go_wp2
    go_ret
    exact ⟨rfl, Below.refl _ _⟩
  · have e : sumAns s = foldN (rawSum s.data.toList) := if_neg h1
    rw [e]
    clear e
    go_enter Tryd.func110, Tryd.ntmps110
    go_wp2_with fail
    refine (sumTexts_any w.heap.size [s] _ ?c (by simp) (by simp; omega)).mono ?_
    case c => intro j hj; obtain rfl : j = 0 := by simp at hj; omega
              simp
    rintro e w1 ⟨rfl, rfl⟩
    go_wp2
    go_ret
    exact ⟨ret_intS (by simp [rawAll]), (Below.refl _ _).alloc (Nat.le_refl _) _⟩
end Go.Proofs.YthfhbmiddillbagDoor
end

section
namespace Go.Proofs.YthfhbmiddillbagDoor
open Go.ChangeShapes Go.WideShapes Go.ChangeAt Go.RowKit
open Go.ChangeMaps (open_string shut_string)
set_option linter.unusedVariables false

theorem implCheckOf_any (s : ByteArray) (w : World) (hs : s.size ≤ maxLen) :
    Calls Tryd.prog 94 #[.string s] w fun e w' => e = .returned (.int .i64 (checkAns s)) ∧ Below w.heap.size w w' := by
  have hs' : s.size ≤ 2 ^ 63 - 1 := hs
  by_cases h1 : 8000 < s.size
  · have e : checkAns s = 0 := if_pos h1
    rw [e]
    go_enter Tryd.func94, Tryd.ntmps94
    go_wp2
    go_ret
    exact ⟨rfl, Below.refl _ _⟩
  · have e : checkAns s = 65535 - (sumAns s : Int) := if_neg h1
    rw [e]
    clear e
    have hl := sumAns_le s
    go_enter Tryd.func94, Tryd.ntmps94
    go_wp2_with fail
    refine (implSumOf_any s _ hs).mono ?_
    rintro e w1 ⟨rfl, hb⟩
    go_wp2
    go_ret
    exact ⟨rfl, hb⟩
theorem specCheckOf_any (s : ByteArray) (w : World) (hs : s.size ≤ maxLen) :
    Calls Tryd.prog 41 #[.string s] w fun e w' => e = .returned (.int .i64 (checkAns s)) ∧ w' = w := by
  have hs' : s.size ≤ 2 ^ 63 - 1 := hs
  by_cases h1 : 8000 < s.size
  · have e : checkAns s = 0 := if_pos h1
    rw [e]
    go_enter Tryd.func41, Tryd.ntmps41
    go_wp2
    go_ret
    exact ⟨rfl, rfl⟩
  · have e : checkAns s = 65535 - (sumAns s : Int) := if_neg h1
    rw [e]
    clear e
    have hl := sumAns_le s
    go_enter Tryd.func41, Tryd.ntmps41
    go_wp2_with fail
    refine (specSumOf_any s _ hs).mono ?_
    rintro e w1 ⟨rfl, rfl⟩
    go_wp2
    go_ret
    exact ⟨rfl, rfl⟩
end Go.Proofs.YthfhbmiddillbagDoor
end

section
namespace Go.Proofs.YthfhbmiddillbagDoor
open Go.ChangeShapes Go.WideShapes Go.ChangeAt Go.RowKit
set_option linter.unusedVariables false
set_option maxRecDepth 100000
set_option linter.unusedSimpArgs false

theorem specCheckOf_b (s : ByteArray) (w : World) (hs : s.size ≤ maxLen) :
    Calls Tryd.prog 41 #[.string s] w fun e w' => e = .returned (.int .i64 (checkAns s)) ∧ Below w.heap.size w w' :=
  (specCheckOf_any s w hs).mono (fun e w' h => ⟨h.1, by rw [h.2]; exact Below.refl _ _⟩)
/-- what is checked of TCP and UDP -/
def pseudoT (p : Pk) (t : ByteArray) : ByteArray := fourT p.src.toNat ++ fourT p.dst.toNat ++ rowT [0, p.proto] ++ twoT t.size ++ t
/-- the check of what is behind the head -/
def checkT (p : Pk) : Int := if p.proto = 1 then checkAns (tailT p 0) else if p.proto = 17 ∧ checkAns (pseudoT p (tailT p 0)) = 0 then 65535 else checkAns (pseudoT p (tailT p 0))
theorem checkAns_word {s : ByteArray} : wordB (checkAns s) = true := by
  have := sumAns_le s
  unfold checkAns
  split
  · rfl
  · exact wordB_iff.2 ⟨by omega, by omega⟩
theorem checkT_word (p : Pk) : wordB (checkT p) = true := by
  unfold checkT
  split
  · exact checkAns_word
  · split
    · rfl
    · exact checkAns_word

set_option maxHeartbeats 4000000 in
theorem l03Check_any (p : Pk) (w : World) (h : Fine p) :
    Calls Tryd.prog 40 #[.agg #[.int .i64 p.src, .int .i64 p.dst, .int .i64 p.proto, .int .i64 p.a, .int .i64 p.b, .int .i64 p.kind, .int .i64 p.flags, .int .i64 p.seq, .int .i64 p.ack, .string p.body]] w fun e w' => e = .returned (.int .i64 (checkT p)) ∧ Below w.heap.size w w' := by
  have hS := h.small 0
  have hs1 := h.src
  have hs2 := h.dst
  have hpr := hidS h.proto
  have hT := hidS (fun W => l03Tail_any p 0 W h (by omega))
  obtain ⟨t, ht⟩ : ∃ t, t = tailT p 0 := ⟨_, rfl⟩
  rw [← ht] at hS hT
  have HT := hidS ht
  clear ht h
  have hwt : wordB (t.size : Int) = true := wordB_iff.2 ⟨by omega, by omega⟩
  have z2 : (rowT [0, p.proto]).size = 2 := rowT_size _
  have z3 := twoT_size t.size
  have z4 := fourT_size p.src.toNat
  have z5 := fourT_size p.dst.toNat
  go_enter Tryd.func40, Tryd.ntmps40
  go_wp2_with fail
  refine (hT.out _).mono ?_
  rintro e w1 ⟨rfl, hb1⟩
  have hP1 := (PkAt.new p w).later hb1
  have hB1 := hidS (((Below.refl w.heap.size w).alloc (Nat.le_refl _) _).trans (hb1.mono (by simp)))
  clear hb1 hT
  have HP := hidS hP1
  obtain ⟨c0, c1, c2, c3, c4, c5, c6, c7, c8, c9⟩ := hP1
  by_cases h1 : p.proto = 1
  · have e : Hid (checkT p = checkAns t) := by rw [HT.out]; exact if_pos h1
    have h1' : (p.proto == 1) = true := beq_iff_eq.2 h1
    clear h1
    go_wp2_with fail
    refine (specCheckOf_b t _ (by unfold maxLen; omega)).mono ?_
    rintro _ w2 ⟨rfl, hb2⟩
    have hE := hidS (hB1.out.trans (hb2.mono hB1.out.size))
    go_wp2
    go_ret
    exact ⟨by rw [e.out]; rfl, hE.out⟩
  have h1' : (p.proto == 1) = false := beq_eq_false_iff_ne.2 h1
  have hpr1 : 0 ≤ p.proto := by rcases hpr.out with q | q | q <;> omega
  have hpr2 : p.proto ≤ 255 := by rcases hpr.out with q | q | q <;> omega
  have hwf : IntKind.u8.wrap p.proto = p.proto := IntWalk.u8_in _ (by omega)
  have H1 := hidS h1
  clear h1
  go_wp2_with fail
  refine grow_kinds 21 [.is (.pointer (some ⟨w.heap.size, 0, none⟩)), .is (.int .i64 p.src), .is (.string (fourT p.src.toNat)), .is (.pointer (some ⟨w.heap.size, 1, none⟩)), .is (.int .i64 p.dst), .is (.string (fourT p.dst.toNat)), .is (.string (fourT p.src.toNat ++ (fourT p.dst.toNat))), .is (.pointer (some ⟨w.heap.size, 2, none⟩)), .is (.int .i64 p.proto), .is (.int .u8 p.proto), .row (rowL [0, p.proto]), .is (.string (rowT [0, p.proto])), .is (.string (fourT p.src.toNat ++ (fourT p.dst.toNat) ++ (rowT [0, p.proto]))), .is (.string t), .is (.int .i64 (t.size : Int)), .is (.string (twoT t.size)), .is (.string (fourT p.src.toNat ++ (fourT p.dst.toNat) ++ (rowT [0, p.proto]) ++ (twoT t.size))), .is (.string t), .is (.string (fourT p.src.toNat ++ (fourT p.dst.toNat) ++ (rowT [0, p.proto]) ++ (twoT t.size) ++ t)), .is (.int .i64 (checkAns (fourT p.src.toNat ++ (fourT p.dst.toNat) ++ (rowT [0, p.proto]) ++ (twoT t.size) ++ t))), .is (.int .i64 (checkAns (fourT p.src.toNat ++ (fourT p.dst.toNat) ++ (rowT [0, p.proto]) ++ (twoT t.size) ++ t)))] rfl (by kernel_rfl) (by kernel_rfl) ?steps ?fin
  case steps =>
    refine ⟨?_, ?_, ?_, ?_, ?_, ?_, ?_, ?_, ?_, ?_, ?_, ?_, ?_, ?_, ?_, ?_, ?_, ?_, ?_, ?_, ?_, trivial⟩
    · refine ⟨rfl, fun v W ρ hC hc hf hs hi hd => ?_⟩
      have t1 : ρ (.tmp 1) = .pointer (some ⟨w.heap.size, 0, none⟩) := hi 1 (by decide)
      simp [execOp, go_sem, t1]
      exact ⟨hC, Below.refl _ _, rfl⟩
    · refine ⟨rfl, fun v W ρ hC hc hf hs hi hd => ?_⟩
      have d0 : v 0 = .pointer (some ⟨w.heap.size, 0, none⟩) := hd _ (Array.mem_of_getElem? (i := 0) rfl) rfl
      have t12 : ρ (.tmp 12) = v 0 := hs 0 12 (by decide) rfl
      rw [d0] at t12
      have hp := HP.out.later hC
      obtain ⟨c0, c1, c2, c3, c4, c5, c6, c7, c8, c9⟩ := hp
      simp [execOp, go_sem, t12, c0]
      exact ⟨hC, Below.refl _ _, rfl⟩
    · refine ⟨rfl, fun v W ρ hC hc hf hs hi hd => ?_⟩
      have d1 : v 1 = .int .i64 p.src := hd _ (Array.mem_of_getElem? (i := 0) rfl) rfl
      have t13 : ρ (.tmp 13) = v 1 := hs 1 13 (by decide) rfl
      rw [d1] at t13
      simp [execOp, go_sem, t13, hf]
      exact Calls.mono (l03Four_x _ _ (by assumption)) (fun e x h => ⟨_, h.1, hC.trans (h.2.mono hC.size), h.2, rfl⟩)
    · refine ⟨rfl, fun v W ρ hC hc hf hs hi hd => ?_⟩
      have t1 : ρ (.tmp 1) = .pointer (some ⟨w.heap.size, 0, none⟩) := hi 1 (by decide)
      simp [execOp, go_sem, t1]
      exact ⟨hC, Below.refl _ _, rfl⟩
    · refine ⟨rfl, fun v W ρ hC hc hf hs hi hd => ?_⟩
      have d3 : v 3 = .pointer (some ⟨w.heap.size, 1, none⟩) := hd _ (Array.mem_of_getElem? (i := 0) rfl) rfl
      have t15 : ρ (.tmp 15) = v 3 := hs 3 15 (by decide) rfl
      rw [d3] at t15
      have hp := HP.out.later hC
      obtain ⟨c0, c1, c2, c3, c4, c5, c6, c7, c8, c9⟩ := hp
      simp [execOp, go_sem, t15, c1]
      exact ⟨hC, Below.refl _ _, rfl⟩
    · refine ⟨rfl, fun v W ρ hC hc hf hs hi hd => ?_⟩
      have d4 : v 4 = .int .i64 p.dst := hd _ (Array.mem_of_getElem? (i := 0) rfl) rfl
      have t16 : ρ (.tmp 16) = v 4 := hs 4 16 (by decide) rfl
      rw [d4] at t16
      simp [execOp, go_sem, t16, hf]
      exact Calls.mono (l03Four_x _ _ (by assumption)) (fun e x h => ⟨_, h.1, hC.trans (h.2.mono hC.size), h.2, rfl⟩)
    · refine ⟨rfl, fun v W ρ hC hc hf hs hi hd => ?_⟩
      have d2 : v 2 = .string (fourT p.src.toNat) := hd _ (Array.mem_of_getElem? (i := 0) rfl) rfl
      have t14 : ρ (.tmp 14) = v 2 := hs 2 14 (by decide) rfl
      rw [d2] at t14
      have d5 : v 5 = .string (fourT p.dst.toNat) := hd _ (Array.mem_of_getElem? (i := 1) rfl) rfl
      have t17 : ρ (.tmp 17) = v 5 := hs 5 17 (by decide) rfl
      rw [d5] at t17
      simp [execOp, go_sem, t14, t17]
      first | exact ⟨hC, Below.refl _ _, rfl⟩ | (rw [if_neg (by omega)]; exact ⟨hC, Below.refl _ _, rfl⟩)
    · refine ⟨rfl, fun v W ρ hC hc hf hs hi hd => ?_⟩
      have t1 : ρ (.tmp 1) = .pointer (some ⟨w.heap.size, 0, none⟩) := hi 1 (by decide)
      simp [execOp, go_sem, t1]
      exact ⟨hC, Below.refl _ _, rfl⟩
    · refine ⟨rfl, fun v W ρ hC hc hf hs hi hd => ?_⟩
      have d7 : v 7 = .pointer (some ⟨w.heap.size, 2, none⟩) := hd _ (Array.mem_of_getElem? (i := 0) rfl) rfl
      have t19 : ρ (.tmp 19) = v 7 := hs 7 19 (by decide) rfl
      rw [d7] at t19
      have hp := HP.out.later hC
      obtain ⟨c0, c1, c2, c3, c4, c5, c6, c7, c8, c9⟩ := hp
      simp [execOp, go_sem, t19, c2]
      exact ⟨hC, Below.refl _ _, rfl⟩
    · refine ⟨rfl, fun v W ρ hC hc hf hs hi hd => ?_⟩
      have d8 : v 8 = .int .i64 p.proto := hd _ (Array.mem_of_getElem? (i := 0) rfl) rfl
      have t20 : ρ (.tmp 20) = v 8 := hs 8 20 (by decide) rfl
      rw [d8] at t20
      simp [execOp, go_sem, t20, hwf]
      exact ⟨hC, Below.refl _ _, rfl⟩
    · refine ⟨rfl, fun v W ρ hC hc hf hs hi hd => ?_⟩
      have d9 : v 9 = .int .u8 p.proto := hd _ (Array.mem_of_getElem? (i := 0) rfl) rfl
      have t21 : ρ (.tmp 21) = v 9 := hs 9 21 (by decide) rfl
      rw [d9] at t21
      simp [execOp, go_sem, t21, hc]
      exact ⟨hC.alloc hC.size _, (Below.refl _ _).alloc (Nat.le_refl _) _, W.heap.size, rfl, row_at [0, p.proto] (by simp; omega)⟩
    · refine ⟨rfl, fun v W ρ hC hc hf hs hi hd => ?_⟩
      obtain ⟨B10, e10, hB10⟩ : ∃ B, v 10 = .slice (some ⟨B, 0, none⟩) (rowL [0, p.proto]).length (rowL [0, p.proto]).length ∧ BytesAt B (rowL [0, p.proto]) W := hd _ (Array.mem_of_getElem? (i := 0) rfl) rfl
      have t22 : ρ (.tmp 22) = v 10 := hs 10 22 (by decide) rfl
      rw [e10] at t22
      have hcv := BytesAt.conv (rowL [0, p.proto]).length hB10
      simp [execOp, go_sem, t22, hcv]
      exact ⟨hC, Below.refl _ _, rfl⟩
    · refine ⟨rfl, fun v W ρ hC hc hf hs hi hd => ?_⟩
      have d6 : v 6 = .string (fourT p.src.toNat ++ (fourT p.dst.toNat)) := hd _ (Array.mem_of_getElem? (i := 0) rfl) rfl
      have t18 : ρ (.tmp 18) = v 6 := hs 6 18 (by decide) rfl
      rw [d6] at t18
      have d11 : v 11 = .string (rowT [0, p.proto]) := hd _ (Array.mem_of_getElem? (i := 1) rfl) rfl
      have t23 : ρ (.tmp 23) = v 11 := hs 11 23 (by decide) rfl
      rw [d11] at t23
      simp [execOp, go_sem, t18, t23]
      first | exact ⟨hC, Below.refl _ _, rfl⟩ | (rw [if_neg (by omega)]; exact ⟨hC, Below.refl _ _, rfl⟩)
    · refine ⟨rfl, fun v W ρ hC hc hf hs hi hd => ?_⟩
      have t3 : ρ (.tmp 3) = .string t := hi 3 (by decide)
      simp [execOp, go_sem, t3]
      exact ⟨hC, Below.refl _ _, rfl⟩
    · refine ⟨rfl, fun v W ρ hC hc hf hs hi hd => ?_⟩
      have d13 : v 13 = .string t := hd _ (Array.mem_of_getElem? (i := 0) rfl) rfl
      have t25 : ρ (.tmp 25) = v 13 := hs 13 25 (by decide) rfl
      rw [d13] at t25
      simp [execOp, go_sem, t25]
      exact ⟨hC, Below.refl _ _, rfl⟩
    · refine ⟨rfl, fun v W ρ hC hc hf hs hi hd => ?_⟩
      have d14 : v 14 = .int .i64 (t.size : Int) := hd _ (Array.mem_of_getElem? (i := 0) rfl) rfl
      have t26 : ρ (.tmp 26) = v 14 := hs 14 26 (by decide) rfl
      rw [d14] at t26
      simp [execOp, go_sem, t26, hf]
      exact Calls.mono (l02Two_x _ _ (by assumption)) (fun e x h => ⟨_, h.1, hC.trans (h.2.mono hC.size), h.2, rfl⟩)
    · refine ⟨rfl, fun v W ρ hC hc hf hs hi hd => ?_⟩
      have d12 : v 12 = .string (fourT p.src.toNat ++ (fourT p.dst.toNat) ++ (rowT [0, p.proto])) := hd _ (Array.mem_of_getElem? (i := 0) rfl) rfl
      have t24 : ρ (.tmp 24) = v 12 := hs 12 24 (by decide) rfl
      rw [d12] at t24
      have d15 : v 15 = .string (twoT t.size) := hd _ (Array.mem_of_getElem? (i := 1) rfl) rfl
      have t27 : ρ (.tmp 27) = v 15 := hs 15 27 (by decide) rfl
      rw [d15] at t27
      simp [execOp, go_sem, t24, t27]
      first | exact ⟨hC, Below.refl _ _, rfl⟩ | (rw [if_neg (by omega)]; exact ⟨hC, Below.refl _ _, rfl⟩)
    · refine ⟨rfl, fun v W ρ hC hc hf hs hi hd => ?_⟩
      have t3 : ρ (.tmp 3) = .string t := hi 3 (by decide)
      simp [execOp, go_sem, t3]
      exact ⟨hC, Below.refl _ _, rfl⟩
    · refine ⟨rfl, fun v W ρ hC hc hf hs hi hd => ?_⟩
      have d16 : v 16 = .string (fourT p.src.toNat ++ (fourT p.dst.toNat) ++ (rowT [0, p.proto]) ++ (twoT t.size)) := hd _ (Array.mem_of_getElem? (i := 0) rfl) rfl
      have t28 : ρ (.tmp 28) = v 16 := hs 16 28 (by decide) rfl
      rw [d16] at t28
      have d17 : v 17 = .string t := hd _ (Array.mem_of_getElem? (i := 1) rfl) rfl
      have t29 : ρ (.tmp 29) = v 17 := hs 17 29 (by decide) rfl
      rw [d17] at t29
      simp [execOp, go_sem, t28, t29]
      first | exact ⟨hC, Below.refl _ _, rfl⟩ | (rw [if_neg (by omega)]; exact ⟨hC, Below.refl _ _, rfl⟩)
    · refine ⟨rfl, fun v W ρ hC hc hf hs hi hd => ?_⟩
      have d18 : v 18 = .string (fourT p.src.toNat ++ (fourT p.dst.toNat) ++ (rowT [0, p.proto]) ++ (twoT t.size) ++ t) := hd _ (Array.mem_of_getElem? (i := 0) rfl) rfl
      have t30 : ρ (.tmp 30) = v 18 := hs 18 30 (by decide) rfl
      rw [d18] at t30
      simp [execOp, go_sem, t30, hf]
      exact Calls.mono (specCheckOf_b _ _ (by simp only [ByteArray.size_append, twoT_size, fourT_size, rowT_size, List.length_cons, List.length_nil]; unfold maxLen; omega)) (fun e x h => ⟨_, h.1, hC.trans (h.2.mono hC.size), h.2, rfl⟩)
    · refine ⟨rfl, fun v W ρ hC hc hf hs hi hd => ?_⟩
      have d19 : v 19 = .int .i64 (checkAns (fourT p.src.toNat ++ (fourT p.dst.toNat) ++ (rowT [0, p.proto]) ++ (twoT t.size) ++ t)) := hd _ (Array.mem_of_getElem? (i := 0) rfl) rfl
      have t31 : ρ (.tmp 31) = v 19 := hs 19 31 (by decide) rfl
      rw [d19] at t31
      simp [execOp, go_sem, t31]
      exact ⟨hC, Below.refl _ _, rfl⟩
  case fin =>
    intro v W hC hall
    have hL4 : v 20 = .int .i64 (checkAns (fourT p.src.toNat ++ (fourT p.dst.toNat) ++ (rowT [0, p.proto]) ++ (twoT t.size) ++ t)) := hall 20 (by decide)
    simp [upto, Act.put]
    rw [hL4]
    clear hall hL4
    have hE := hidS (hB1.out.trans (hC.mono hB1.out.size))
    have hp := HP.out.later hC
    obtain ⟨c0, c1, c2, c3, c4, c5, c6, c7, c8, c9⟩ := hp
    by_cases hz : p.proto = 17 ∧ checkAns (pseudoT p t) = 0
    · have e : Hid (checkT p = 65535) := by unfold checkT; rw [if_neg H1.out, ← HT.out, if_pos hz]; rfl
      obtain ⟨h17, hz0⟩ := hz
      have h17' : (p.proto == 17) = true := beq_iff_eq.2 h17
      have hz' : (checkAns (pseudoT p t) == 0) = true := beq_iff_eq.2 hz0
      clear h17 hz0
      unfold pseudoT at hz'
      go_wp2
      go_ret
      exact ⟨by rw [e.out]; rfl, hE.out⟩
    · have e : Hid (checkT p = checkAns (pseudoT p t)) := by unfold checkT; rw [if_neg H1.out, ← HT.out, if_neg hz]; rfl
      by_cases h17 : p.proto = 17
      · have h17' : (p.proto == 17) = true := beq_iff_eq.2 h17
        have hz' : (checkAns (pseudoT p t) == 0) = false := beq_eq_false_iff_ne.2 (fun q => hz ⟨h17, q⟩)
        clear h17 hz
        unfold pseudoT at hz'
        go_wp2
        go_ret
        exact ⟨by rw [e.out]; rfl, hE.out⟩
      · have h17' : (p.proto == 17) = false := beq_eq_false_iff_ne.2 h17
        clear h17 hz
        go_wp2
        go_ret
        exact ⟨by rw [e.out]; rfl, hE.out⟩
end Go.Proofs.YthfhbmiddillbagDoor
end

section
namespace Go.Proofs.YthfhbmiddillbagDoor
open Go.ChangeShapes Go.WideShapes Go.ChangeAt Go.RowKit
set_option linter.unusedVariables false
set_option maxRecDepth 100000
set_option linter.unusedSimpArgs false

theorem l03Tail_x (p : Pk) (c : Int) (w : World) (h : Fine p) (hc : wordB c = true) :
    Calls Tryd.prog 39 #[.agg #[.int .i64 p.src, .int .i64 p.dst, .int .i64 p.proto, .int .i64 p.a, .int .i64 p.b, .int .i64 p.kind, .int .i64 p.flags, .int .i64 p.seq, .int .i64 p.ack, .string p.body], .int .i64 c] w fun e w' => e = .returned (.string (tailT p c.toNat)) ∧ Below w.heap.size w w' := by
  obtain ⟨n, rfl⟩ : ∃ n : Nat, c = n := ⟨c.toNat, by have := wordB_iff.1 hc; omega⟩
  exact l03Tail_any p n w h (by have := wordB_iff.1 hc; omega)
theorem l03Head_x (p : Pk) (n : Nat) (c : Int) (w : World) (h : Fine p) (hn : n ≤ 1000) (hc : wordB c = true) :
    Calls Tryd.prog 28 #[.agg #[.int .i64 p.src, .int .i64 p.dst, .int .i64 p.proto, .int .i64 p.a, .int .i64 p.b, .int .i64 p.kind, .int .i64 p.flags, .int .i64 p.seq, .int .i64 p.ack, .string p.body], .int .i64 (n : Int), .int .i64 c] w fun e w' => e = .returned (.string (headT p n c)) ∧ Below w.heap.size w w' :=
  l03Head_any p n c w h.src h.dst (by rcases h.proto with q | q | q <;> omega) (by rcases h.proto with q | q | q <;> omega) hn hc
/-- the bytes of a right packet -/
def bytesOf (p : Pk) : ByteArray := headT p (tailT p (checkT p).toNat).size (checkAns (headT p (tailT p (checkT p).toNat).size 0)) ++ tailT p (checkT p).toNat

set_option maxHeartbeats 4000000 in
theorem l03Bytes_any (p : Pk) (w : World) (h : Fine p) :
    Calls Tryd.prog 23 #[.agg #[.int .i64 p.src, .int .i64 p.dst, .int .i64 p.proto, .int .i64 p.a, .int .i64 p.b, .int .i64 p.kind, .int .i64 p.flags, .int .i64 p.seq, .int .i64 p.ack, .string p.body]] w fun e w' => e = .returned (.string (bytesOf p)) ∧ Below w.heap.size w w' := by
  have hS := h.small (checkT p).toNat
  have hck := checkT_word p
  have HF := hidS h
  clear h
  have HP := hidS (PkAt.new p w)
  have hB1 := hidS ((Below.refl w.heap.size w).alloc (Nat.le_refl _) (.cells #[.int .i64 p.src, .int .i64 p.dst, .int .i64 p.proto, .int .i64 p.a, .int .i64 p.b, .int .i64 p.kind, .int .i64 p.flags, .int .i64 p.seq, .int .i64 p.ack, .string p.body] 30))
  go_enter Tryd.func23, Tryd.ntmps23
  go_wp2_with fail
  generalize w.alloc (.cells #[.int .i64 p.src, .int .i64 p.dst, .int .i64 p.proto, .int .i64 p.a, .int .i64 p.b, .int .i64 p.kind, .int .i64 p.flags, .int .i64 p.seq, .int .i64 p.ack, .string p.body] 30) = w1 at HP hB1 ⊢
  refine grow_kinds 5 [.is (.agg #[.int .i64 p.src, .int .i64 p.dst, .int .i64 p.proto, .int .i64 p.a, .int .i64 p.b, .int .i64 p.kind, .int .i64 p.flags, .int .i64 p.seq, .int .i64 p.ack, .string p.body]), .is (.agg #[.int .i64 p.src, .int .i64 p.dst, .int .i64 p.proto, .int .i64 p.a, .int .i64 p.b, .int .i64 p.kind, .int .i64 p.flags, .int .i64 p.seq, .int .i64 p.ack, .string p.body]), .is (.int .i64 (checkT p)), .is (.string (tailT p (checkT p).toNat)), .is (.string (tailT p (checkT p).toNat))] rfl (by kernel_rfl) (by kernel_rfl) ?steps ?fin
  case steps =>
    refine ⟨?_, ?_, ?_, ?_, ?_, trivial⟩
    · refine ⟨rfl, fun v W ρ hC kc kf ks ki kd => ?_⟩
      have t1 : ρ (.tmp 1) = .pointer (some ⟨w.heap.size, 0, none⟩) := ki 1 (by decide)
      have hp := HP.out.later hC
      obtain ⟨c0, c1, c2, c3, c4, c5, c6, c7, c8, c9⟩ := hp
      simp [execOp, go_sem, t1, c0, c1, c2, c3, c4, c5, c6, c7, c8, c9]
      exact ⟨hC, Below.refl _ _, rfl⟩
    · refine ⟨rfl, fun v W ρ hC kc kf ks ki kd => ?_⟩
      have t1 : ρ (.tmp 1) = .pointer (some ⟨w.heap.size, 0, none⟩) := ki 1 (by decide)
      have hp := HP.out.later hC
      obtain ⟨c0, c1, c2, c3, c4, c5, c6, c7, c8, c9⟩ := hp
      simp [execOp, go_sem, t1, c0, c1, c2, c3, c4, c5, c6, c7, c8, c9]
      exact ⟨hC, Below.refl _ _, rfl⟩
    · refine ⟨rfl, fun v W ρ hC kc kf ks ki kd => ?_⟩
      have d1 : v 1 = .agg #[.int .i64 p.src, .int .i64 p.dst, .int .i64 p.proto, .int .i64 p.a, .int .i64 p.b, .int .i64 p.kind, .int .i64 p.flags, .int .i64 p.seq, .int .i64 p.ack, .string p.body] := kd _ (Array.mem_of_getElem? (i := 0) rfl) rfl
      have t6 : ρ (.tmp 6) = v 1 := ks 1 6 (by decide) rfl
      rw [d1] at t6
      simp [execOp, go_sem, t6, kf]
      exact Calls.mono (l03Check_any p _ HF.out) (fun e x h => ⟨_, h.1, hC.trans (h.2.mono hC.size), h.2, rfl⟩)
    · refine ⟨rfl, fun v W ρ hC kc kf ks ki kd => ?_⟩
      have d0 : v 0 = .agg #[.int .i64 p.src, .int .i64 p.dst, .int .i64 p.proto, .int .i64 p.a, .int .i64 p.b, .int .i64 p.kind, .int .i64 p.flags, .int .i64 p.seq, .int .i64 p.ack, .string p.body] := kd _ (Array.mem_of_getElem? (i := 0) rfl) rfl
      have t5 : ρ (.tmp 5) = v 0 := ks 0 5 (by decide) rfl
      rw [d0] at t5
      have d2 : v 2 = .int .i64 (checkT p) := kd _ (Array.mem_of_getElem? (i := 1) rfl) rfl
      have t7 : ρ (.tmp 7) = v 2 := ks 2 7 (by decide) rfl
      rw [d2] at t7
      simp [execOp, go_sem, t5, t7, kf]
      exact Calls.mono (l03Tail_x p _ _ HF.out hck) (fun e x h => ⟨_, h.1, hC.trans (h.2.mono hC.size), h.2, rfl⟩)
    · refine ⟨rfl, fun v W ρ hC kc kf ks ki kd => ?_⟩
      have d3 : v 3 = .string (tailT p (checkT p).toNat) := kd _ (Array.mem_of_getElem? (i := 0) rfl) rfl
      have t8 : ρ (.tmp 8) = v 3 := ks 3 8 (by decide) rfl
      rw [d3] at t8
      simp [execOp, go_sem, t8]
      exact ⟨hC, Below.refl _ _, rfl⟩
  case fin =>
    intro v W hC hall
    have hL3 : v 4 = .string (tailT p (checkT p).toNat) := hall 4 (by decide)
    simp [upto, Act.put]
    rw [hL3]
    clear hall hL3
    have hB2 := hidS (hB1.out.trans (hC.mono hB1.out.size))
    have HP2 := hidS (HP.out.later hC)
    clear hC hB1 HP
    have hE : Hid (bytesOf p = headT p (tailT p (checkT p).toNat).size (checkAns (headT p (tailT p (checkT p).toNat).size 0)) ++ tailT p (checkT p).toNat) := rfl
    generalize tailT p (checkT p).toNat = t at hS hE ⊢
    have hck1 : wordB (checkAns (headT p t.size 0)) = true := checkAns_word
    have z1 := headT_size p t.size (checkAns (headT p t.size 0))
    have z2 := headT_size p t.size 0
    have HP := HP2
    have hB1 := hB2
    go_wp2_with fail
    refine grow_kinds 10 [.is (.agg #[.int .i64 p.src, .int .i64 p.dst, .int .i64 p.proto, .int .i64 p.a, .int .i64 p.b, .int .i64 p.kind, .int .i64 p.flags, .int .i64 p.seq, .int .i64 p.ack, .string p.body]), .is (.int .i64 (t.size : Int)), .is (.agg #[.int .i64 p.src, .int .i64 p.dst, .int .i64 p.proto, .int .i64 p.a, .int .i64 p.b, .int .i64 p.kind, .int .i64 p.flags, .int .i64 p.seq, .int .i64 p.ack, .string p.body]), .is (.int .i64 (t.size : Int)), .is (.string (headT p t.size 0)), .is (.int .i64 (checkAns (headT p t.size 0))), .is (.string (headT p t.size (checkAns (headT p t.size 0)))), .is (.string t), .is (.string (headT p t.size (checkAns (headT p t.size 0)) ++ t)), .is (.string (headT p t.size (checkAns (headT p t.size 0)) ++ t))] rfl (by kernel_rfl) (by kernel_rfl) ?steps ?fin
    case steps =>
      refine ⟨?_, ?_, ?_, ?_, ?_, ?_, ?_, ?_, ?_, ?_, trivial⟩
      · refine ⟨rfl, fun v W ρ hC kc kf ks ki kd => ?_⟩
        have t1 : ρ (.tmp 1) = .pointer (some ⟨w.heap.size, 0, none⟩) := ki 1 (by decide)
        have hp := HP.out.later hC
        obtain ⟨c0, c1, c2, c3, c4, c5, c6, c7, c8, c9⟩ := hp
        simp [execOp, go_sem, t1, c0, c1, c2, c3, c4, c5, c6, c7, c8, c9]
        exact ⟨hC, Below.refl _ _, rfl⟩
      · refine ⟨rfl, fun v W ρ hC kc kf ks ki kd => ?_⟩
        have t4 : ρ (.tmp 4) = .int .i64 (t.size : Int) := ki 4 (by decide)
        simp [execOp, go_sem, t4]
        exact ⟨hC, Below.refl _ _, rfl⟩
      · refine ⟨rfl, fun v W ρ hC kc kf ks ki kd => ?_⟩
        have t1 : ρ (.tmp 1) = .pointer (some ⟨w.heap.size, 0, none⟩) := ki 1 (by decide)
        have hp := HP.out.later hC
        obtain ⟨c0, c1, c2, c3, c4, c5, c6, c7, c8, c9⟩ := hp
        simp [execOp, go_sem, t1, c0, c1, c2, c3, c4, c5, c6, c7, c8, c9]
        exact ⟨hC, Below.refl _ _, rfl⟩
      · refine ⟨rfl, fun v W ρ hC kc kf ks ki kd => ?_⟩
        have t4 : ρ (.tmp 4) = .int .i64 (t.size : Int) := ki 4 (by decide)
        simp [execOp, go_sem, t4]
        exact ⟨hC, Below.refl _ _, rfl⟩
      · refine ⟨rfl, fun v W ρ hC kc kf ks ki kd => ?_⟩
        have d2 : v 2 = .agg #[.int .i64 p.src, .int .i64 p.dst, .int .i64 p.proto, .int .i64 p.a, .int .i64 p.b, .int .i64 p.kind, .int .i64 p.flags, .int .i64 p.seq, .int .i64 p.ack, .string p.body] := kd _ (Array.mem_of_getElem? (i := 0) rfl) rfl
        have t13 : ρ (.tmp 13) = v 2 := ks 2 13 (by decide) rfl
        rw [d2] at t13
        have d3 : v 3 = .int .i64 (t.size : Int) := kd _ (Array.mem_of_getElem? (i := 1) rfl) rfl
        have t14 : ρ (.tmp 14) = v 3 := ks 3 14 (by decide) rfl
        rw [d3] at t14
        simp [execOp, go_sem, t13, t14, kf, kc]
        exact Calls.mono (l03Head_x p _ _ _ HF.out (by omega) rfl) (fun e x h => ⟨_, h.1, hC.trans (h.2.mono hC.size), h.2, rfl⟩)
      · refine ⟨rfl, fun v W ρ hC kc kf ks ki kd => ?_⟩
        have d4 : v 4 = .string (headT p t.size 0) := kd _ (Array.mem_of_getElem? (i := 0) rfl) rfl
        have t15 : ρ (.tmp 15) = v 4 := ks 4 15 (by decide) rfl
        rw [d4] at t15
        simp [execOp, go_sem, t15, kf]
        exact Calls.mono (specCheckOf_b _ _ (by rw [z2]; unfold maxLen; omega)) (fun e x h => ⟨_, h.1, hC.trans (h.2.mono hC.size), h.2, rfl⟩)
      · refine ⟨rfl, fun v W ρ hC kc kf ks ki kd => ?_⟩
        have d0 : v 0 = .agg #[.int .i64 p.src, .int .i64 p.dst, .int .i64 p.proto, .int .i64 p.a, .int .i64 p.b, .int .i64 p.kind, .int .i64 p.flags, .int .i64 p.seq, .int .i64 p.ack, .string p.body] := kd _ (Array.mem_of_getElem? (i := 0) rfl) rfl
        have t11 : ρ (.tmp 11) = v 0 := ks 0 11 (by decide) rfl
        rw [d0] at t11
        have d1 : v 1 = .int .i64 (t.size : Int) := kd _ (Array.mem_of_getElem? (i := 1) rfl) rfl
        have t12 : ρ (.tmp 12) = v 1 := ks 1 12 (by decide) rfl
        rw [d1] at t12
        have d5 : v 5 = .int .i64 (checkAns (headT p t.size 0)) := kd _ (Array.mem_of_getElem? (i := 2) rfl) rfl
        have t16 : ρ (.tmp 16) = v 5 := ks 5 16 (by decide) rfl
        rw [d5] at t16
        simp [execOp, go_sem, t11, t12, t16, kf]
        exact Calls.mono (l03Head_x p _ _ _ HF.out (by omega) hck1) (fun e x h => ⟨_, h.1, hC.trans (h.2.mono hC.size), h.2, rfl⟩)
      · refine ⟨rfl, fun v W ρ hC kc kf ks ki kd => ?_⟩
        have t3 : ρ (.tmp 3) = .string t := ki 3 (by decide)
        simp [execOp, go_sem, t3]
        exact ⟨hC, Below.refl _ _, rfl⟩
      · refine ⟨rfl, fun v W ρ hC kc kf ks ki kd => ?_⟩
        have d6 : v 6 = .string (headT p t.size (checkAns (headT p t.size 0))) := kd _ (Array.mem_of_getElem? (i := 0) rfl) rfl
        have t17 : ρ (.tmp 17) = v 6 := ks 6 17 (by decide) rfl
        rw [d6] at t17
        have d7 : v 7 = .string t := kd _ (Array.mem_of_getElem? (i := 1) rfl) rfl
        have t18 : ρ (.tmp 18) = v 7 := ks 7 18 (by decide) rfl
        rw [d7] at t18
        simp [execOp, go_sem, t17, t18]
        first | exact ⟨hC, Below.refl _ _, rfl⟩ | (rw [if_neg (by omega)]; exact ⟨hC, Below.refl _ _, rfl⟩)
      · refine ⟨rfl, fun v W ρ hC kc kf ks ki kd => ?_⟩
        have d8 : v 8 = .string (headT p t.size (checkAns (headT p t.size 0)) ++ t) := kd _ (Array.mem_of_getElem? (i := 0) rfl) rfl
        have t19 : ρ (.tmp 19) = v 8 := ks 8 19 (by decide) rfl
        rw [d8] at t19
        simp [execOp, go_sem, t19]
        exact ⟨hC, Below.refl _ _, rfl⟩
    case fin =>
      intro v W hC hall
      have hL2 : v 9 = .string (headT p t.size (checkAns (headT p t.size 0)) ++ t) := hall 9 (by decide)
      simp [upto, Act.put]
      rw [hL2]
      clear hall hL2
      have hE2 := hidS (hB1.out.trans (hC.mono hB1.out.size))
      go_wp2
      go_ret
      exact ⟨by rw [hE.out]; rfl, hE2.out⟩
/-- what PacketBytes is to answer -/
def bytesAns (p : Pk) : ByteArray := if rightB p = true then bytesOf p else ⟨#[]⟩
end Go.Proofs.YthfhbmiddillbagDoor
end

section
namespace Go.Proofs.YthfhbmiddillbagDoor
open Go.ChangeShapes Go.WideShapes Go.ChangeAt Go.RowKit
open Go.ChangeMaps (open_string shut_string)
set_option linter.unusedVariables false

theorem l02Is_any (n lo hi : Int) (w : World) :
    Calls Tryd.prog 38 #[.int .i64 n, .int .i64 lo, .int .i64 hi] w fun e w' => e = .returned (.bool (decide (lo ≤ n) && decide (n ≤ hi))) ∧ w' = w := by
  by_cases h1 : lo ≤ n
  · by_cases h2 : n ≤ hi
    · go_enter Tryd.func38, Tryd.ntmps38
      go_wp2
      go_ret
      exact ⟨by simp [h1, h2], rfl⟩
    · go_enter Tryd.func38, Tryd.ntmps38
      go_wp2
      go_ret
      exact ⟨by simp [h2], rfl⟩
  · go_enter Tryd.func38, Tryd.ntmps38
    go_wp2
    go_ret
    exact ⟨by simp; omega, rfl⟩
theorem l02Word_any (n : Int) (w : World) :
    Calls Tryd.prog 37 #[.int .i64 n] w fun e w' => e = .returned (.bool (wordB n)) ∧ w' = w := by
  go_enter Tryd.func37, Tryd.ntmps37
  go_wp2_with fail
  refine (l02Is_any n 0 65535 _).mono ?_
  rintro e w1 ⟨rfl, rfl⟩
  go_wp2
  go_ret
  exact ⟨rfl, rfl⟩
end Go.Proofs.YthfhbmiddillbagDoor
end
