/- Proved here: impl.checkWithEnds and impl.checkOfPart answer the check of what stands behind a head; all old memory stays (conditions: the packet's ends and its protocol's byte are within their bounds, at most 1000 bytes). -/
import Derived.Test.YtedknnkdnccfmaaGreatDoorCheckI
import Derived.Test.YtedknnkdnccfmaaGreatDoorCheck3
namespace Go.Proofs.YtedknnkdnccfmaaGreatDoor
open Go.ChangeShapes Go.WideShapes Go.ChangeAt Go.RowKit
open Go.ChangeMaps (open_string shut_string)
set_option linter.unusedVariables false
set_option maxRecDepth 100000
set_option linter.unusedSimpArgs false

theorem rawAll2 (a b : ByteArray) : rawAll [a, b] = rawSum a.data.toList + rawSum b.data.toList := by simp [rawAll]
theorem two_row (z : Int) (h0 : 0 ≤ z) (h1 : z ≤ 255) : twoT z.toNat = rowT [0, z] := by
  have e1 : z.toNat / 256 = 0 := by omega
  have e2 : z.toNat % 256 = z.toNat := by omega
  unfold twoT rowT rowL
  rw [e1, e2]
  rfl
theorem ends_sum (p : Pk) (t : ByteArray) (h0 : 0 ≤ p.proto) (h1 : p.proto ≤ 255) (ht : t.size ≤ 1000) :
    (65535 : Int) - ((foldN (rawAll [catT [fourT p.src.toNat, fourT p.dst.toNat, twoT p.proto.toNat, twoT t.size], t]) : Nat) : Int) = checkAns (pseudoT p t) := by
  have e : (pseudoT p t).data.toList = (catT [fourT p.src.toNat, fourT p.dst.toNat, twoT p.proto.toNat, twoT t.size]).data.toList ++ t.data.toList := by
    rw [two_row p.proto h0 h1]
    simp [pseudoT, catT, catL]
  have hl : (catT [fourT p.src.toNat, fourT p.dst.toNat, twoT p.proto.toNat, twoT t.size]).data.toList.length = 2 * 6 := by
    have a1 := fourT_size p.src.toNat
    have a2 := fourT_size p.dst.toNat
    have a3 := twoT_size p.proto.toNat
    have a4 := twoT_size t.size
    simp [catT, catL, a1, a2, a3, a4]
  have hs : (pseudoT p t).size = 12 + t.size := by
    have : (pseudoT p t).data.toList.length = 12 + t.size := by rw [e, List.length_append, hl]; simp
    simpa using this
  unfold checkAns sumAns
  rw [if_neg (by omega), if_neg (by omega), rawAll2, e, rawSum_app 6 _ _ hl]

set_option maxHeartbeats 4000000 in
theorem ends_x (p : Pk) (t : ByteArray) (w : World) (hs1 : addrB p.src = true) (hs2 : addrB p.dst = true) (hp1 : 0 ≤ p.proto) (hp2 : p.proto ≤ 255) (ht : t.size ≤ 1000) :
    Calls Tryz.prog 93 #[.agg #[.int .i64 p.src, .int .i64 p.dst, .int .i64 p.proto, .int .i64 p.a, .int .i64 p.b, .int .i64 p.kind, .int .i64 p.flags, .int .i64 p.seq, .int .i64 p.ack, .string p.body], .string t] w fun e w' => e = .returned (.int .i64 (checkAns (pseudoT p t))) ∧ Below w.heap.size w w' := by
  have hwp : wordB p.proto = true := wordB_iff.2 ⟨by omega, by omega⟩
  have hwt : wordB (t.size : Int) = true := wordB_iff.2 ⟨by omega, by omega⟩
  have HP := hidS (PkAt.new p w)
  have hE := hidS (ends_sum p t hp1 hp2 ht)
  have hB1 := hidS ((Below.refl w.heap.size w).alloc (Nat.le_refl _) (.cells #[.int .i64 p.src, .int .i64 p.dst, .int .i64 p.proto, .int .i64 p.a, .int .i64 p.b, .int .i64 p.kind, .int .i64 p.flags, .int .i64 p.seq, .int .i64 p.ack, .string p.body] 24))
  go_enter Tryz.func93, Tryz.ntmps93
  go_wp2_with fail
  generalize w.alloc (.cells #[.int .i64 p.src, .int .i64 p.dst, .int .i64 p.proto, .int .i64 p.a, .int .i64 p.b, .int .i64 p.kind, .int .i64 p.flags, .int .i64 p.seq, .int .i64 p.ack, .string p.body] 24) = w1 at HP hB1 ⊢
  refine grow_kinds 15 [.is (.pointer (some ⟨w.heap.size, 0, none⟩)), .is (.int .i64 p.src), .is (.string (fourT p.src.toNat)), .is (.pointer (some ⟨w.heap.size, 1, none⟩)), .is (.int .i64 p.dst), .is (.string (fourT p.dst.toNat)), .is (.pointer (some ⟨w.heap.size, 2, none⟩)), .is (.int .i64 p.proto), .is (.string (twoT p.proto.toNat)), .is (.string t), .is (.int .i64 (t.size : Int)), .is (.string (twoT t.size)), .vals [.string (fourT p.src.toNat), .string (fourT p.dst.toNat), .string (twoT p.proto.toNat), .string (twoT t.size)], .is (.string (catT [(fourT p.src.toNat), (fourT p.dst.toNat), (twoT p.proto.toNat), (twoT t.size)])), .is (.string (catT [(fourT p.src.toNat), (fourT p.dst.toNat), (twoT p.proto.toNat), (twoT t.size)]))] rfl (by kernel_rfl) (by kernel_rfl) ?steps ?fin
  case steps =>
    refine ⟨?_, ?_, ?_, ?_, ?_, ?_, ?_, ?_, ?_, ?_, ?_, ?_, ?_, ?_, ?_, trivial⟩
    · refine ⟨rfl, fun v W ρ hC kc kf ks ki kd => ?_⟩
      have t2 : ρ (.tmp 2) = .pointer (some ⟨w.heap.size, 0, none⟩) := ki 2 (by decide)
      simp [execOp, go_sem, t2]
      exact ⟨hC, Below.refl _ _, rfl⟩
    · refine ⟨rfl, fun v W ρ hC kc kf ks ki kd => ?_⟩
      have d0 : v 0 = .pointer (some ⟨w.heap.size, 0, none⟩) := kd _ (Array.mem_of_getElem? (i := 0) rfl) rfl
      have t6 : ρ (.tmp 6) = v 0 := ks 0 6 (by decide) rfl
      rw [d0] at t6
      have hp := HP.out.later hC
      obtain ⟨c0, c1, c2, c3, c4, c5, c6, c7, c8, c9⟩ := hp
      simp [execOp, go_sem, t6, c0]
      exact ⟨hC, Below.refl _ _, rfl⟩
    · refine ⟨rfl, fun v W ρ hC kc kf ks ki kd => ?_⟩
      have d1 : v 1 = .int .i64 p.src := kd _ (Array.mem_of_getElem? (i := 0) rfl) rfl
      have t7 : ρ (.tmp 7) = v 1 := ks 1 7 (by decide) rfl
      rw [d1] at t7
      simp [execOp, go_sem, t7, kf]
      exact Calls.mono (longText_x _ _ (by assumption)) (fun e x h => ⟨_, h.1, hC.trans (h.2.mono hC.size), h.2, rfl⟩)
    · refine ⟨rfl, fun v W ρ hC kc kf ks ki kd => ?_⟩
      have t2 : ρ (.tmp 2) = .pointer (some ⟨w.heap.size, 0, none⟩) := ki 2 (by decide)
      simp [execOp, go_sem, t2]
      exact ⟨hC, Below.refl _ _, rfl⟩
    · refine ⟨rfl, fun v W ρ hC kc kf ks ki kd => ?_⟩
      have d3 : v 3 = .pointer (some ⟨w.heap.size, 1, none⟩) := kd _ (Array.mem_of_getElem? (i := 0) rfl) rfl
      have t9 : ρ (.tmp 9) = v 3 := ks 3 9 (by decide) rfl
      rw [d3] at t9
      have hp := HP.out.later hC
      obtain ⟨c0, c1, c2, c3, c4, c5, c6, c7, c8, c9⟩ := hp
      simp [execOp, go_sem, t9, c1]
      exact ⟨hC, Below.refl _ _, rfl⟩
    · refine ⟨rfl, fun v W ρ hC kc kf ks ki kd => ?_⟩
      have d4 : v 4 = .int .i64 p.dst := kd _ (Array.mem_of_getElem? (i := 0) rfl) rfl
      have t10 : ρ (.tmp 10) = v 4 := ks 4 10 (by decide) rfl
      rw [d4] at t10
      simp [execOp, go_sem, t10, kf]
      exact Calls.mono (longText_x _ _ (by assumption)) (fun e x h => ⟨_, h.1, hC.trans (h.2.mono hC.size), h.2, rfl⟩)
    · refine ⟨rfl, fun v W ρ hC kc kf ks ki kd => ?_⟩
      have t2 : ρ (.tmp 2) = .pointer (some ⟨w.heap.size, 0, none⟩) := ki 2 (by decide)
      simp [execOp, go_sem, t2]
      exact ⟨hC, Below.refl _ _, rfl⟩
    · refine ⟨rfl, fun v W ρ hC kc kf ks ki kd => ?_⟩
      have d6 : v 6 = .pointer (some ⟨w.heap.size, 2, none⟩) := kd _ (Array.mem_of_getElem? (i := 0) rfl) rfl
      have t12 : ρ (.tmp 12) = v 6 := ks 6 12 (by decide) rfl
      rw [d6] at t12
      have hp := HP.out.later hC
      obtain ⟨c0, c1, c2, c3, c4, c5, c6, c7, c8, c9⟩ := hp
      simp [execOp, go_sem, t12, c2]
      exact ⟨hC, Below.refl _ _, rfl⟩
    · refine ⟨rfl, fun v W ρ hC kc kf ks ki kd => ?_⟩
      have d7 : v 7 = .int .i64 p.proto := kd _ (Array.mem_of_getElem? (i := 0) rfl) rfl
      have t13 : ρ (.tmp 13) = v 7 := ks 7 13 (by decide) rfl
      rw [d7] at t13
      simp [execOp, go_sem, t13, kf]
      exact Calls.mono (implWord_x _ _ (by assumption)) (fun e x h => ⟨_, h.1, hC.trans (h.2.mono hC.size), h.2, rfl⟩)
    · refine ⟨rfl, fun v W ρ hC kc kf ks ki kd => ?_⟩
      have t1 : ρ (.tmp 1) = .string t := ki 1 (by decide)
      simp [execOp, go_sem, t1]
      exact ⟨hC, Below.refl _ _, rfl⟩
    · refine ⟨rfl, fun v W ρ hC kc kf ks ki kd => ?_⟩
      have d9 : v 9 = .string t := kd _ (Array.mem_of_getElem? (i := 0) rfl) rfl
      have t15 : ρ (.tmp 15) = v 9 := ks 9 15 (by decide) rfl
      rw [d9] at t15
      simp [execOp, go_sem, t15]
      exact ⟨hC, Below.refl _ _, rfl⟩
    · refine ⟨rfl, fun v W ρ hC kc kf ks ki kd => ?_⟩
      have d10 : v 10 = .int .i64 (t.size : Int) := kd _ (Array.mem_of_getElem? (i := 0) rfl) rfl
      have t16 : ρ (.tmp 16) = v 10 := ks 10 16 (by decide) rfl
      rw [d10] at t16
      simp [execOp, go_sem, t16, kf]
      exact Calls.mono (implWord_x _ _ (by assumption)) (fun e x h => ⟨_, h.1, hC.trans (h.2.mono hC.size), h.2, rfl⟩)
    · refine ⟨rfl, fun v W ρ hC kc kf ks ki kd => ?_⟩
      have d2 : v 2 = .string (fourT p.src.toNat) := kd _ (Array.mem_of_getElem? (i := 0) rfl) rfl
      have t8 : ρ (.tmp 8) = v 2 := ks 2 8 (by decide) rfl
      rw [d2] at t8
      have d5 : v 5 = .string (fourT p.dst.toNat) := kd _ (Array.mem_of_getElem? (i := 1) rfl) rfl
      have t11 : ρ (.tmp 11) = v 5 := ks 5 11 (by decide) rfl
      rw [d5] at t11
      have d8 : v 8 = .string (twoT p.proto.toNat) := kd _ (Array.mem_of_getElem? (i := 2) rfl) rfl
      have t14 : ρ (.tmp 14) = v 8 := ks 8 14 (by decide) rfl
      rw [d8] at t14
      have d11 : v 11 = .string (twoT t.size) := kd _ (Array.mem_of_getElem? (i := 3) rfl) rfl
      have t17 : ρ (.tmp 17) = v 11 := ks 11 17 (by decide) rfl
      rw [d11] at t17
      simp [execOp, go_sem, t8, t11, t14, t17]
      exact ⟨hC.alloc hC.size _, (Below.refl _ _).alloc (Nat.le_refl _) _, W.heap.size, rfl, vals_at [.string (fourT p.src.toNat), .string (fourT p.dst.toNat), .string (twoT p.proto.toNat), .string (twoT t.size)] _⟩
    · refine ⟨rfl, fun v W ρ hC kc kf ks ki kd => ?_⟩
      obtain ⟨B12, e12, hB12⟩ : ∃ B, v 12 = .slice (some ⟨B, 0, none⟩) 4 4 ∧ ValsAt B [.string (fourT p.src.toNat), .string (fourT p.dst.toNat), .string (twoT p.proto.toNat), .string (twoT t.size)] W := kd _ (Array.mem_of_getElem? (i := 0) rfl) rfl
      have t18 : ρ (.tmp 18) = v 12 := ks 12 18 (by decide) rfl
      rw [e12] at t18
      simp [execOp, go_sem, t18, kf]
      exact Calls.mono (joinTexts_any B12 [(fourT p.src.toNat), (fourT p.dst.toNat), (twoT p.proto.toNat), (twoT t.size)] _ (ValsAt.strs (ts := [(fourT p.src.toNat), (fourT p.dst.toNat), (twoT p.proto.toNat), (twoT t.size)]) hB12) hB12.1 (by simp) (by simp [twoT_size, fourT_size])) (fun e x h => ⟨_, h.1, hC.trans (h.2.mono hC.size), h.2, rfl⟩)
    · refine ⟨rfl, fun v W ρ hC kc kf ks ki kd => ?_⟩
      have d13 : v 13 = .string (catT [(fourT p.src.toNat), (fourT p.dst.toNat), (twoT p.proto.toNat), (twoT t.size)]) := kd _ (Array.mem_of_getElem? (i := 0) rfl) rfl
      have t19 : ρ (.tmp 19) = v 13 := ks 13 19 (by decide) rfl
      rw [d13] at t19
      simp [execOp, go_sem, t19]
      exact ⟨hC, Below.refl _ _, rfl⟩
  case fin =>
    intro v W hC hall
    have hL5 : v 14 = .string (catT [(fourT p.src.toNat), (fourT p.dst.toNat), (twoT p.proto.toNat), (twoT t.size)]) := hall 14 (by decide)
    simp [upto, Act.put]
    rw [hL5]
    clear hall hL5
    have hL := hidS (hB1.out.trans (hC.mono hB1.out.size))
    clear hC hB1 HP
    have hv := vals_at (W := W) [.string (catT [fourT p.src.toNat, fourT p.dst.toNat, twoT p.proto.toNat, twoT t.size]), .string t] 9
    have hz : (catT [fourT p.src.toNat, fourT p.dst.toNat, twoT p.proto.toNat, twoT t.size]).size ≤ 100000 := by
      have := catL_len 4 [fourT p.src.toNat, fourT p.dst.toNat, twoT p.proto.toNat, twoT t.size] (by simp [twoT_size, fourT_size]) (by simp)
      have a1 := fourT_size p.src.toNat
      have a2 := fourT_size p.dst.toNat
      have a3 := twoT_size p.proto.toNat
      have a4 := twoT_size t.size
      show (catL _).toArray.size ≤ _
      simp [catL, a1, a2, a3, a4]
    have hsm := sumTexts_any W.heap.size [catT [fourT p.src.toNat, fourT p.dst.toNat, twoT p.proto.toNat, twoT t.size], t] _ (ValsAt.strs (ts := [catT [fourT p.src.toNat, fourT p.dst.toNat, twoT p.proto.toNat, twoT t.size], t]) hv) (by simp) (by simp; omega)
    have HSM := hidS hsm
    have hA := hidS (hL.out.alloc hL.out.size (.cells #[.string (catT [fourT p.src.toNat, fourT p.dst.toNat, twoT p.proto.toNat, twoT t.size]), .string t] 9))
    have hfl := foldN_le (rawAll [catT [fourT p.src.toNat, fourT p.dst.toNat, twoT p.proto.toNat, twoT t.size], t])
    clear hv hz hsm hL
    generalize catT [fourT p.src.toNat, fourT p.dst.toNat, twoT p.proto.toNat, twoT t.size] = ends at *
    go_wp2_with fail
    refine HSM.out.mono ?_
    rintro _ w3 ⟨rfl, rfl⟩
    clear HSM
    go_wp2_with fail
    go_ret
    exact ⟨by rw [← hE.out]; rfl, hA.out⟩

/-- what checkOfPart answers of a tail -/
def partC (p : Pk) (t : ByteArray) : Int := if p.proto = 1 then checkAns t else if p.proto = 17 ∧ checkAns (pseudoT p t) = 0 then 65535 else checkAns (pseudoT p t)
theorem partC_tail (p : Pk) : partC p (tailT p 0) = checkT p := rfl
theorem checkOfPart_tcp (p : Pk) (v : Value) (t : ByteArray) (w : World) (h6 : p.proto = 6) (hs1 : addrB p.src = true) (hs2 : addrB p.dst = true) (ht : t.size ≤ 1000) :
    Calls Tryz.prog 45 #[.agg #[.int .i64 p.src, .int .i64 p.dst, .int .i64 p.proto, .int .i64 p.a, .int .i64 p.b, .int .i64 p.kind, .int .i64 p.flags, .int .i64 p.seq, .int .i64 p.ack, .string p.body], .iface 109 v, .string t] w fun e w' => e = .returned (.int .i64 (partC p t)) ∧ Below w.heap.size w w' := by
  have e0 : Hid (partC p t = checkAns (pseudoT p t)) := by show _ = _; unfold partC; rw [if_neg (by omega), if_neg (by omega)]
  have hX := hidS (fun W => ends_x p t W hs1 hs2 (by omega) (by omega) ht)
  have hB1 := hidS ((Below.refl w.heap.size w).alloc (Nat.le_refl _) (.cells #[.int .i64 p.src, .int .i64 p.dst, .int .i64 p.proto, .int .i64 p.a, .int .i64 p.b, .int .i64 p.kind, .int .i64 p.flags, .int .i64 p.seq, .int .i64 p.ack, .string p.body] 24))
  have h1 := as_tcp_tcp v
  clear h6 hs1 hs2
  go_enter Tryz.func45, Tryz.ntmps45
  go_wp2_with fail
  refine (hX.out _).mono ?_
  rintro _ w2 ⟨rfl, hb2⟩
  have hE := hidS (hB1.out.trans (hb2.mono hB1.out.size))
  clear hb2 hB1 hX h1
  go_wp2_with fail
  go_ret
  exact ⟨by rw [e0.out]; rfl, hE.out⟩
theorem checkOfPart_udp (p : Pk) (v : Value) (t : ByteArray) (w : World) (h17 : p.proto = 17) (hs1 : addrB p.src = true) (hs2 : addrB p.dst = true) (ht : t.size ≤ 1000) :
    Calls Tryz.prog 45 #[.agg #[.int .i64 p.src, .int .i64 p.dst, .int .i64 p.proto, .int .i64 p.a, .int .i64 p.b, .int .i64 p.kind, .int .i64 p.flags, .int .i64 p.seq, .int .i64 p.ack, .string p.body], .iface 111 v, .string t] w fun e w' => e = .returned (.int .i64 (partC p t)) ∧ Below w.heap.size w w' := by
  have hX := hidS (fun W => ends_x p t W hs1 hs2 (by omega) (by omega) ht)
  have hB1 := hidS ((Below.refl w.heap.size w).alloc (Nat.le_refl _) (.cells #[.int .i64 p.src, .int .i64 p.dst, .int .i64 p.proto, .int .i64 p.a, .int .i64 p.b, .int .i64 p.kind, .int .i64 p.flags, .int .i64 p.seq, .int .i64 p.ack, .string p.body] 24))
  have h1 := as_udp_tcp v
  have h2 := as_udp_udp v
  by_cases hz : checkAns (pseudoT p t) = 0
  · have e0 : Hid (partC p t = 65535) := by show _ = _; unfold partC; rw [if_neg (by omega), if_pos ⟨h17, hz⟩]
    clear h17 hs1 hs2
    go_enter Tryz.func45, Tryz.ntmps45
    go_wp2_with fail
    refine (hX.out _).mono ?_
    rintro _ w2 ⟨rfl, hb2⟩
    have hE := hidS (hB1.out.trans (hb2.mono hB1.out.size))
    rw [hz]
    clear hb2 hB1 hX h1 h2 hz
    go_wp2_with fail
    go_ret
    exact ⟨by rw [e0.out]; rfl, hE.out⟩
  · have e0 : Hid (partC p t = checkAns (pseudoT p t)) := by show _ = _; unfold partC; rw [if_neg (by omega), if_neg (by rintro ⟨_, q⟩; exact hz q)]
    have hz' : (checkAns (pseudoT p t) != 0) = true := by simpa using hz
    clear h17 hs1 hs2
    go_enter Tryz.func45, Tryz.ntmps45
    go_wp2_with fail
    refine (hX.out _).mono ?_
    rintro _ w2 ⟨rfl, hb2⟩
    have hE := hidS (hB1.out.trans (hb2.mono hB1.out.size))
    clear hb2 hB1 hX h1 h2
    go_wp2_with fail
    go_ret
    exact ⟨by rw [e0.out]; rfl, hE.out⟩
theorem checkOfPart_err (p : Pk) (v : Value) (t : ByteArray) (w : World) (h1 : p.proto = 1) (ht : t.size ≤ 1000) :
    Calls Tryz.prog 45 #[.agg #[.int .i64 p.src, .int .i64 p.dst, .int .i64 p.proto, .int .i64 p.a, .int .i64 p.b, .int .i64 p.kind, .int .i64 p.flags, .int .i64 p.seq, .int .i64 p.ack, .string p.body], .iface 113 v, .string t] w fun e w' => e = .returned (.int .i64 (partC p t)) ∧ Below w.heap.size w w' := by
  have e0 : Hid (partC p t = checkAns t) := by show _ = _; unfold partC; rw [if_pos h1]
  have hX := hidS (fun W => implCheckOf_any t W (by unfold maxLen; omega))
  have hB1 := hidS ((Below.refl w.heap.size w).alloc (Nat.le_refl _) (.cells #[.int .i64 p.src, .int .i64 p.dst, .int .i64 p.proto, .int .i64 p.a, .int .i64 p.b, .int .i64 p.kind, .int .i64 p.flags, .int .i64 p.seq, .int .i64 p.ack, .string p.body] 24))
  have h2 := as_err_tcp v
  have h3 := as_err_udp v
  clear h1
  go_enter Tryz.func45, Tryz.ntmps45
  go_wp2_with fail
  refine (hX.out _).mono ?_
  rintro _ w2 ⟨rfl, hb2⟩
  have hE := hidS (hB1.out.trans (hb2.mono hB1.out.size))
  clear hb2 hB1 hX h2 h3
  go_wp2_with fail
  go_ret
  exact ⟨by rw [e0.out]; rfl, hE.out⟩
theorem checkOfPart_echo (p : Pk) (v : Value) (t : ByteArray) (w : World) (h1 : p.proto = 1) (ht : t.size ≤ 1000) :
    Calls Tryz.prog 45 #[.agg #[.int .i64 p.src, .int .i64 p.dst, .int .i64 p.proto, .int .i64 p.a, .int .i64 p.b, .int .i64 p.kind, .int .i64 p.flags, .int .i64 p.seq, .int .i64 p.ack, .string p.body], .iface 115 v, .string t] w fun e w' => e = .returned (.int .i64 (partC p t)) ∧ Below w.heap.size w w' := by
  have e0 : Hid (partC p t = checkAns t) := by show _ = _; unfold partC; rw [if_pos h1]
  have hX := hidS (fun W => implCheckOf_any t W (by unfold maxLen; omega))
  have hB1 := hidS ((Below.refl w.heap.size w).alloc (Nat.le_refl _) (.cells #[.int .i64 p.src, .int .i64 p.dst, .int .i64 p.proto, .int .i64 p.a, .int .i64 p.b, .int .i64 p.kind, .int .i64 p.flags, .int .i64 p.seq, .int .i64 p.ack, .string p.body] 24))
  have h2 := as_echo_tcp v
  have h3 := as_echo_udp v
  clear h1
  go_enter Tryz.func45, Tryz.ntmps45
  go_wp2_with fail
  refine (hX.out _).mono ?_
  rintro _ w2 ⟨rfl, hb2⟩
  have hE := hidS (hB1.out.trans (hb2.mono hB1.out.size))
  clear hb2 hB1 hX h2 h3
  go_wp2_with fail
  go_ret
  exact ⟨by rw [e0.out]; rfl, hE.out⟩
end Go.Proofs.YtedknnkdnccfmaaGreatDoor
