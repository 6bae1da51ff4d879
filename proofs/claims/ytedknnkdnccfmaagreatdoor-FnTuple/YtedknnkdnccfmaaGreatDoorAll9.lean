/- Proved here: spec.l03Tail answers what is behind the head of a right packet (no conditions but that it is right, and a check is a word). · Proved here: spec.l03Head answers the head of a packet; all old memory stays (conditions: its addresses, its protocol's byte, a check are within their bounds, at most 1000 bytes behind it). -/
import Derived.Test.YtedknnkdnccfmaaGreatDoorTail
section
namespace Go.Proofs.YtedknnkdnccfmaaGreatDoor
open Go.ChangeShapes Go.WideShapes Go.ChangeAt Go.RowKit
set_option linter.unusedVariables false
set_option maxRecDepth 100000

/-- what a right packet's numbers are within -/
structure Fine (p : Pk) : Prop where
  src : addrB p.src = true
  dst : addrB p.dst = true
  proto : p.proto = 6 ∨ p.proto = 17 ∨ p.proto = 1
  a : wordB p.a = true
  b : wordB p.b = true
  flags : flagB p.flags = true
  seq : addrB p.seq = true
  seqW : p.proto = 1 → wordB p.seq = true
  ack : addrB p.ack = true
  kind0 : 0 ≤ p.kind
  kind1 : p.kind ≤ 8
  body : p.body.size ≤ 100
theorem word_addr {z : Int} (h : wordB z = true) : addrB z = true := addrB_iff.2 (by have := wordB_iff.1 h; omega)
theorem fine_of {p : Pk} (h : rightB p = true) : Fine p := by
  unfold rightB at h
  simp only [Bool.and_eq_true, decide_eq_true_eq] at h
  obtain ⟨⟨⟨h1, h2⟩, h3⟩, h4⟩ := h
  have z0 : wordB 0 = true := rfl
  have y0 : addrB 0 = true := rfl
  have x0 : flagB 0 = true := rfl
  by_cases p6 : p.proto = 6
  · rw [if_pos p6] at h4
    simp only [tcpB, Bool.and_eq_true, decide_eq_true_eq] at h4
    obtain ⟨⟨⟨⟨⟨ha, hb⟩, hk⟩, hf⟩, hq⟩, hc⟩ := h4
    exact ⟨h1, h2, .inl p6, ha, hb, hf, hq, fun e => absurd (p6.symm.trans e) (by decide), hc, by omega, by omega, h3⟩
  · rw [if_neg p6] at h4
    by_cases p17 : p.proto = 17
    · rw [if_pos p17] at h4
      simp only [udpB, Bool.and_eq_true, decide_eq_true_eq] at h4
      obtain ⟨⟨⟨⟨⟨ha, hb⟩, hk⟩, hf⟩, hq⟩, hc⟩ := h4
      exact ⟨h1, h2, .inr (.inl p17), ha, hb, by rw [hf]; rfl, by rw [hq]; rfl, fun e => absurd (p17.symm.trans e) (by decide), by rw [hc]; rfl, by omega, by omega, h3⟩
    · rw [if_neg p17] at h4
      by_cases p1 : p.proto = 1
      · rw [if_pos p1] at h4
        simp only [pingB, Bool.and_eq_true, decide_eq_true_eq] at h4
        obtain ⟨⟨⟨hb, hf⟩, hc⟩, hr⟩ := h4
        by_cases k3 : p.kind = 3
        · rw [if_pos k3] at hr
          simp only [Bool.and_eq_true, decide_eq_true_eq] at hr
          obtain ⟨⟨ha, hq⟩, hz⟩ := hr
          exact ⟨h1, h2, .inr (.inr p1), by rw [ha]; rfl, by rw [hb]; rfl, by rw [hf]; rfl, by rw [hq]; rfl, fun _ => by rw [hq]; rfl, by rw [hc]; rfl, by omega, by omega, h3⟩
        · rw [if_neg k3] at hr
          simp only [Bool.and_eq_true, Bool.or_eq_true, decide_eq_true_eq] at hr
          obtain ⟨⟨hk, ha⟩, hq⟩ := hr
          exact ⟨h1, h2, .inr (.inr p1), ha, by rw [hb]; rfl, by rw [hf]; rfl, word_addr hq, fun _ => hq, by rw [hc]; rfl, by omega, by omega, h3⟩
      · rw [if_neg p1] at h4; cases h4
theorem Fine.small {p : Pk} (h : Fine p) (c : Nat) : (tailT p c).size ≤ 120 := by
  have hb := h.body
  unfold tailT
  split
  · simp only [ByteArray.size_append, twoT_size, fourT_size, rowT_size, List.length_cons, List.length_nil]
    have : (⟨#[0, 0]⟩ : ByteArray).size = 2 := rfl
    omega
  · split
    · simp only [ByteArray.size_append, twoT_size]; omega
    · split <;> simp only [ByteArray.size_append, twoT_size, rowT_size, List.length_cons, List.length_nil] <;> omega

theorem l03Tail_any (p : Pk) (c : Nat) (w : World) (h : Fine p) (hc : c ≤ 65535) :
    Calls Tryz.prog 103 #[.agg #[.int .i64 p.src, .int .i64 p.dst, .int .i64 p.proto, .int .i64 p.a, .int .i64 p.b, .int .i64 p.kind, .int .i64 p.flags, .int .i64 p.seq, .int .i64 p.ack, .string p.body], .int .i64 (c : Int)] w fun e w' => e = .returned (.string (tailT p c)) ∧ Below w.heap.size w w' := by
  have hb := h.body
  rcases h.proto with h6 | h17 | h1
  · exact l03Tail_tcp p c w h6 hc h.a h.b h.flags h.seq h.ack (by omega)
  · exact l03Tail_udp p c w h17 hc h.a h.b (by omega)
  · have := h.kind1
    by_cases h3 : p.kind = 3
    · exact l03Tail_err p c w h1 hc h.a (h.seqW h1) h.kind0 (by omega) h3 (by omega)
    · exact l03Tail_echo p c w h1 hc h.a (h.seqW h1) h.kind0 (by omega) h3 (by omega)
end Go.Proofs.YtedknnkdnccfmaaGreatDoor
end

section
namespace Go.Proofs.YtedknnkdnccfmaaGreatDoor
open Go.ChangeShapes Go.WideShapes Go.ChangeAt Go.RowKit
set_option linter.unusedVariables false
set_option maxRecDepth 100000
set_option linter.unusedSimpArgs false

/-- the head, with a check, of a packet with so many bytes behind it -/
def headT (p : Pk) (n : Nat) (c : Int) : ByteArray := (⟨#[69, 0]⟩ : ByteArray) ++ twoT (20 + (n : Int)).toNat ++ rowT [0, 0, 0, 0, 64, p.proto] ++ twoT c.toNat ++ fourT p.src.toNat ++ fourT p.dst.toNat
theorem headT_size (p : Pk) (n : Nat) (c : Int) : (headT p n c).size = 20 := by
  unfold headT
  simp only [ByteArray.size_append, twoT_size, fourT_size, rowT_size, List.length_cons, List.length_nil]
  rfl

set_option maxHeartbeats 4000000 in
theorem l03Head_any (p : Pk) (n : Nat) (c : Int) (w : World) (hs1 : addrB p.src = true) (hs2 : addrB p.dst = true) (hp1 : 0 ≤ p.proto) (hp2 : p.proto ≤ 255) (hn : n ≤ 1000) (hc : wordB c = true) :
    Calls Tryz.prog 105 #[.agg #[.int .i64 p.src, .int .i64 p.dst, .int .i64 p.proto, .int .i64 p.a, .int .i64 p.b, .int .i64 p.kind, .int .i64 p.flags, .int .i64 p.seq, .int .i64 p.ack, .string p.body], .int .i64 (n : Int), .int .i64 c] w fun e w' => e = .returned (.string (headT p n c)) ∧ Below w.heap.size w w' := by
  have z0 : (⟨#[69, 0]⟩ : ByteArray).size = 2 := rfl
  have z1 := twoT_size (20 + (n : Int)).toNat
  have z2 : (rowT [0, 0, 0, 0, 64, p.proto]).size = 6 := rowT_size _
  have z3 := twoT_size c.toNat
  have z4 := fourT_size p.src.toNat
  have z5 := fourT_size p.dst.toNat
  have hw20 : wordB (20 + (n : Int)) = true := wordB_iff.2 ⟨by omega, by omega⟩
  have hwz : IntKind.i64.wrap (20 + (n : Int)) = 20 + (n : Int) := IntWalk.i64_in _ (by omega)
  have hwf : IntKind.u8.wrap p.proto = p.proto := IntWalk.u8_in _ (by omega)
  have HP := hidS (PkAt.new p w)
  have hB1 := hidS ((Below.refl w.heap.size w).alloc (Nat.le_refl _) (.cells #[.int .i64 p.src, .int .i64 p.dst, .int .i64 p.proto, .int .i64 p.a, .int .i64 p.b, .int .i64 p.kind, .int .i64 p.flags, .int .i64 p.seq, .int .i64 p.ack, .string p.body] 24))
  go_enter Tryz.func105, Tryz.ntmps105
  go_wp2_with fail
  generalize w.alloc (.cells #[.int .i64 p.src, .int .i64 p.dst, .int .i64 p.proto, .int .i64 p.a, .int .i64 p.b, .int .i64 p.kind, .int .i64 p.flags, .int .i64 p.seq, .int .i64 p.ack, .string p.body] 24) = w1 at HP hB1 ⊢
  refine grow_kinds 22 [.is (.int .i64 (n : Int)), .is (.int .i64 (20 + (n : Int))), .is (.string (twoT (20 + (n : Int)).toNat)), .is (.string ((⟨#[69, 0]⟩ : ByteArray) ++ (twoT (20 + (n : Int)).toNat))), .is (.pointer (some ⟨w.heap.size, 2, none⟩)), .is (.int .i64 p.proto), .is (.int .u8 p.proto), .row (rowL [0, 0, 0, 0, 64, p.proto]), .is (.string (rowT [0, 0, 0, 0, 64, p.proto])), .is (.string ((⟨#[69, 0]⟩ : ByteArray) ++ (twoT (20 + (n : Int)).toNat) ++ (rowT [0, 0, 0, 0, 64, p.proto]))), .is (.int .i64 c), .is (.string (twoT c.toNat)), .is (.string ((⟨#[69, 0]⟩ : ByteArray) ++ (twoT (20 + (n : Int)).toNat) ++ (rowT [0, 0, 0, 0, 64, p.proto]) ++ (twoT c.toNat))), .is (.pointer (some ⟨w.heap.size, 0, none⟩)), .is (.int .i64 p.src), .is (.string (fourT p.src.toNat)), .is (.string ((⟨#[69, 0]⟩ : ByteArray) ++ (twoT (20 + (n : Int)).toNat) ++ (rowT [0, 0, 0, 0, 64, p.proto]) ++ (twoT c.toNat) ++ (fourT p.src.toNat))), .is (.pointer (some ⟨w.heap.size, 1, none⟩)), .is (.int .i64 p.dst), .is (.string (fourT p.dst.toNat)), .is (.string ((⟨#[69, 0]⟩ : ByteArray) ++ (twoT (20 + (n : Int)).toNat) ++ (rowT [0, 0, 0, 0, 64, p.proto]) ++ (twoT c.toNat) ++ (fourT p.src.toNat) ++ (fourT p.dst.toNat))), .is (.string ((⟨#[69, 0]⟩ : ByteArray) ++ (twoT (20 + (n : Int)).toNat) ++ (rowT [0, 0, 0, 0, 64, p.proto]) ++ (twoT c.toNat) ++ (fourT p.src.toNat) ++ (fourT p.dst.toNat)))] rfl (by kernel_rfl) (by kernel_rfl) ?steps ?fin
  case steps =>
    refine ⟨?_, ?_, ?_, ?_, ?_, ?_, ?_, ?_, ?_, ?_, ?_, ?_, ?_, ?_, ?_, ?_, ?_, ?_, ?_, ?_, ?_, ?_, trivial⟩
    · refine ⟨rfl, fun v W ρ hC hc hf hs hi hd => ?_⟩
      have t1 : ρ (.tmp 1) = .int .i64 (n : Int) := hi 1 (by decide)
      simp [execOp, go_sem, t1]
      exact ⟨hC, Below.refl _ _, rfl⟩
    · refine ⟨rfl, fun v W ρ hC hc hf hs hi hd => ?_⟩
      have d0 : v 0 = .int .i64 (n : Int) := hd _ (Array.mem_of_getElem? (i := 0) rfl) rfl
      have t7 : ρ (.tmp 7) = v 0 := hs 0 7 (by decide) rfl
      rw [d0] at t7
      simp [execOp, go_sem, t7, hwz, hc]
      exact ⟨hC, Below.refl _ _, rfl⟩
    · refine ⟨rfl, fun v W ρ hC hc hf hs hi hd => ?_⟩
      have d1 : v 1 = .int .i64 (20 + (n : Int)) := hd _ (Array.mem_of_getElem? (i := 0) rfl) rfl
      have t8 : ρ (.tmp 8) = v 1 := hs 1 8 (by decide) rfl
      rw [d1] at t8
      simp [execOp, go_sem, t8, hf]
      exact Calls.mono (l02Two_x _ _ (by assumption)) (fun e x h => ⟨_, h.1, hC.trans (h.2.mono hC.size), h.2, rfl⟩)
    · refine ⟨rfl, fun v W ρ hC hc hf hs hi hd => ?_⟩
      have d2 : v 2 = .string (twoT (20 + (n : Int)).toNat) := hd _ (Array.mem_of_getElem? (i := 0) rfl) rfl
      have t9 : ρ (.tmp 9) = v 2 := hs 2 9 (by decide) rfl
      rw [d2] at t9
      simp [execOp, go_sem, t9, hc]
      first | exact ⟨hC, Below.refl _ _, rfl⟩ | (rw [if_neg (by omega)]; exact ⟨hC, Below.refl _ _, rfl⟩)
    · refine ⟨rfl, fun v W ρ hC hc hf hs hi hd => ?_⟩
      have t3 : ρ (.tmp 3) = .pointer (some ⟨w.heap.size, 0, none⟩) := hi 3 (by decide)
      simp [execOp, go_sem, t3]
      exact ⟨hC, Below.refl _ _, rfl⟩
    · refine ⟨rfl, fun v W ρ hC hc hf hs hi hd => ?_⟩
      have d4 : v 4 = .pointer (some ⟨w.heap.size, 2, none⟩) := hd _ (Array.mem_of_getElem? (i := 0) rfl) rfl
      have t11 : ρ (.tmp 11) = v 4 := hs 4 11 (by decide) rfl
      rw [d4] at t11
      have hp := HP.out.later hC
      obtain ⟨c0, c1, c2, c3, c4, c5, c6, c7, c8, c9⟩ := hp
      simp [execOp, go_sem, t11, c2]
      exact ⟨hC, Below.refl _ _, rfl⟩
    · refine ⟨rfl, fun v W ρ hC hc hf hs hi hd => ?_⟩
      have d5 : v 5 = .int .i64 p.proto := hd _ (Array.mem_of_getElem? (i := 0) rfl) rfl
      have t12 : ρ (.tmp 12) = v 5 := hs 5 12 (by decide) rfl
      rw [d5] at t12
      simp [execOp, go_sem, t12, hwf]
      exact ⟨hC, Below.refl _ _, rfl⟩
    · refine ⟨rfl, fun v W ρ hC hc hf hs hi hd => ?_⟩
      have d6 : v 6 = .int .u8 p.proto := hd _ (Array.mem_of_getElem? (i := 0) rfl) rfl
      have t13 : ρ (.tmp 13) = v 6 := hs 6 13 (by decide) rfl
      rw [d6] at t13
      simp [execOp, go_sem, t13, hc]
      exact ⟨hC.alloc hC.size _, (Below.refl _ _).alloc (Nat.le_refl _) _, W.heap.size, rfl, row_at [0, 0, 0, 0, 64, p.proto] (by simp; omega)⟩
    · refine ⟨rfl, fun v W ρ hC hc hf hs hi hd => ?_⟩
      obtain ⟨B7, e7, hB7⟩ : ∃ B, v 7 = .slice (some ⟨B, 0, none⟩) (rowL [0, 0, 0, 0, 64, p.proto]).length (rowL [0, 0, 0, 0, 64, p.proto]).length ∧ BytesAt B (rowL [0, 0, 0, 0, 64, p.proto]) W := hd _ (Array.mem_of_getElem? (i := 0) rfl) rfl
      have t14 : ρ (.tmp 14) = v 7 := hs 7 14 (by decide) rfl
      rw [e7] at t14
      have hcv := BytesAt.conv (rowL [0, 0, 0, 0, 64, p.proto]).length hB7
      simp [execOp, go_sem, t14, hcv]
      exact ⟨hC, Below.refl _ _, rfl⟩
    · refine ⟨rfl, fun v W ρ hC hc hf hs hi hd => ?_⟩
      have d3 : v 3 = .string ((⟨#[69, 0]⟩ : ByteArray) ++ (twoT (20 + (n : Int)).toNat)) := hd _ (Array.mem_of_getElem? (i := 0) rfl) rfl
      have t10 : ρ (.tmp 10) = v 3 := hs 3 10 (by decide) rfl
      rw [d3] at t10
      have d8 : v 8 = .string (rowT [0, 0, 0, 0, 64, p.proto]) := hd _ (Array.mem_of_getElem? (i := 1) rfl) rfl
      have t15 : ρ (.tmp 15) = v 8 := hs 8 15 (by decide) rfl
      rw [d8] at t15
      simp [execOp, go_sem, t10, t15]
      first | exact ⟨hC, Below.refl _ _, rfl⟩ | (rw [if_neg (by omega)]; exact ⟨hC, Below.refl _ _, rfl⟩)
    · refine ⟨rfl, fun v W ρ hC hc hf hs hi hd => ?_⟩
      have t2 : ρ (.tmp 2) = .int .i64 c := hi 2 (by decide)
      simp [execOp, go_sem, t2]
      exact ⟨hC, Below.refl _ _, rfl⟩
    · refine ⟨rfl, fun v W ρ hC hc hf hs hi hd => ?_⟩
      have d10 : v 10 = .int .i64 c := hd _ (Array.mem_of_getElem? (i := 0) rfl) rfl
      have t17 : ρ (.tmp 17) = v 10 := hs 10 17 (by decide) rfl
      rw [d10] at t17
      simp [execOp, go_sem, t17, hf]
      exact Calls.mono (l02Two_x _ _ (by assumption)) (fun e x h => ⟨_, h.1, hC.trans (h.2.mono hC.size), h.2, rfl⟩)
    · refine ⟨rfl, fun v W ρ hC hc hf hs hi hd => ?_⟩
      have d9 : v 9 = .string ((⟨#[69, 0]⟩ : ByteArray) ++ (twoT (20 + (n : Int)).toNat) ++ (rowT [0, 0, 0, 0, 64, p.proto])) := hd _ (Array.mem_of_getElem? (i := 0) rfl) rfl
      have t16 : ρ (.tmp 16) = v 9 := hs 9 16 (by decide) rfl
      rw [d9] at t16
      have d11 : v 11 = .string (twoT c.toNat) := hd _ (Array.mem_of_getElem? (i := 1) rfl) rfl
      have t18 : ρ (.tmp 18) = v 11 := hs 11 18 (by decide) rfl
      rw [d11] at t18
      simp [execOp, go_sem, t16, t18]
      first | exact ⟨hC, Below.refl _ _, rfl⟩ | (rw [if_neg (by omega)]; exact ⟨hC, Below.refl _ _, rfl⟩)
    · refine ⟨rfl, fun v W ρ hC hc hf hs hi hd => ?_⟩
      have t3 : ρ (.tmp 3) = .pointer (some ⟨w.heap.size, 0, none⟩) := hi 3 (by decide)
      simp [execOp, go_sem, t3]
      exact ⟨hC, Below.refl _ _, rfl⟩
    · refine ⟨rfl, fun v W ρ hC hc hf hs hi hd => ?_⟩
      have d13 : v 13 = .pointer (some ⟨w.heap.size, 0, none⟩) := hd _ (Array.mem_of_getElem? (i := 0) rfl) rfl
      have t20 : ρ (.tmp 20) = v 13 := hs 13 20 (by decide) rfl
      rw [d13] at t20
      have hp := HP.out.later hC
      obtain ⟨c0, c1, c2, c3, c4, c5, c6, c7, c8, c9⟩ := hp
      simp [execOp, go_sem, t20, c0]
      exact ⟨hC, Below.refl _ _, rfl⟩
    · refine ⟨rfl, fun v W ρ hC hc hf hs hi hd => ?_⟩
      have d14 : v 14 = .int .i64 p.src := hd _ (Array.mem_of_getElem? (i := 0) rfl) rfl
      have t21 : ρ (.tmp 21) = v 14 := hs 14 21 (by decide) rfl
      rw [d14] at t21
      simp [execOp, go_sem, t21, hf]
      exact Calls.mono (l03Four_x _ _ (by assumption)) (fun e x h => ⟨_, h.1, hC.trans (h.2.mono hC.size), h.2, rfl⟩)
    · refine ⟨rfl, fun v W ρ hC hc hf hs hi hd => ?_⟩
      have d12 : v 12 = .string ((⟨#[69, 0]⟩ : ByteArray) ++ (twoT (20 + (n : Int)).toNat) ++ (rowT [0, 0, 0, 0, 64, p.proto]) ++ (twoT c.toNat)) := hd _ (Array.mem_of_getElem? (i := 0) rfl) rfl
      have t19 : ρ (.tmp 19) = v 12 := hs 12 19 (by decide) rfl
      rw [d12] at t19
      have d15 : v 15 = .string (fourT p.src.toNat) := hd _ (Array.mem_of_getElem? (i := 1) rfl) rfl
      have t22 : ρ (.tmp 22) = v 15 := hs 15 22 (by decide) rfl
      rw [d15] at t22
      simp [execOp, go_sem, t19, t22]
      first | exact ⟨hC, Below.refl _ _, rfl⟩ | (rw [if_neg (by omega)]; exact ⟨hC, Below.refl _ _, rfl⟩)
    · refine ⟨rfl, fun v W ρ hC hc hf hs hi hd => ?_⟩
      have t3 : ρ (.tmp 3) = .pointer (some ⟨w.heap.size, 0, none⟩) := hi 3 (by decide)
      simp [execOp, go_sem, t3]
      exact ⟨hC, Below.refl _ _, rfl⟩
    · refine ⟨rfl, fun v W ρ hC hc hf hs hi hd => ?_⟩
      have d17 : v 17 = .pointer (some ⟨w.heap.size, 1, none⟩) := hd _ (Array.mem_of_getElem? (i := 0) rfl) rfl
      have t24 : ρ (.tmp 24) = v 17 := hs 17 24 (by decide) rfl
      rw [d17] at t24
      have hp := HP.out.later hC
      obtain ⟨c0, c1, c2, c3, c4, c5, c6, c7, c8, c9⟩ := hp
      simp [execOp, go_sem, t24, c1]
      exact ⟨hC, Below.refl _ _, rfl⟩
    · refine ⟨rfl, fun v W ρ hC hc hf hs hi hd => ?_⟩
      have d18 : v 18 = .int .i64 p.dst := hd _ (Array.mem_of_getElem? (i := 0) rfl) rfl
      have t25 : ρ (.tmp 25) = v 18 := hs 18 25 (by decide) rfl
      rw [d18] at t25
      simp [execOp, go_sem, t25, hf]
      exact Calls.mono (l03Four_x _ _ (by assumption)) (fun e x h => ⟨_, h.1, hC.trans (h.2.mono hC.size), h.2, rfl⟩)
    · refine ⟨rfl, fun v W ρ hC hc hf hs hi hd => ?_⟩
      have d16 : v 16 = .string ((⟨#[69, 0]⟩ : ByteArray) ++ (twoT (20 + (n : Int)).toNat) ++ (rowT [0, 0, 0, 0, 64, p.proto]) ++ (twoT c.toNat) ++ (fourT p.src.toNat)) := hd _ (Array.mem_of_getElem? (i := 0) rfl) rfl
      have t23 : ρ (.tmp 23) = v 16 := hs 16 23 (by decide) rfl
      rw [d16] at t23
      have d19 : v 19 = .string (fourT p.dst.toNat) := hd _ (Array.mem_of_getElem? (i := 1) rfl) rfl
      have t26 : ρ (.tmp 26) = v 19 := hs 19 26 (by decide) rfl
      rw [d19] at t26
      simp [execOp, go_sem, t23, t26]
      first | exact ⟨hC, Below.refl _ _, rfl⟩ | (rw [if_neg (by omega)]; exact ⟨hC, Below.refl _ _, rfl⟩)
    · refine ⟨rfl, fun v W ρ hC hc hf hs hi hd => ?_⟩
      have d20 : v 20 = .string ((⟨#[69, 0]⟩ : ByteArray) ++ (twoT (20 + (n : Int)).toNat) ++ (rowT [0, 0, 0, 0, 64, p.proto]) ++ (twoT c.toNat) ++ (fourT p.src.toNat) ++ (fourT p.dst.toNat)) := hd _ (Array.mem_of_getElem? (i := 0) rfl) rfl
      have t27 : ρ (.tmp 27) = v 20 := hs 20 27 (by decide) rfl
      rw [d20] at t27
      simp [execOp, go_sem, t27]
      exact ⟨hC, Below.refl _ _, rfl⟩
  case fin =>
    intro v W hC hall
    have hL6 : v 21 = .string ((⟨#[69, 0]⟩ : ByteArray) ++ (twoT (20 + (n : Int)).toNat) ++ (rowT [0, 0, 0, 0, 64, p.proto]) ++ (twoT c.toNat) ++ (fourT p.src.toNat) ++ (fourT p.dst.toNat)) := hall 21 (by decide)
    simp [upto, Act.put]
    rw [hL6]
    clear hall hL6
    have hE := hidS (hB1.out.trans (hC.mono hB1.out.size))
    go_wp2
    go_ret
    exact ⟨rfl, hE.out⟩
end Go.Proofs.YtedknnkdnccfmaaGreatDoor
end
