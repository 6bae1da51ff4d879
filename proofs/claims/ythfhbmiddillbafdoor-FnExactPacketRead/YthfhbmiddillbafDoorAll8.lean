/- Proved here: spec.l03Bytes answers a right packet's bytes; all old memory stays (condition: its numbers are within their bounds). · Proved here: impl.PacketBytes answers the bytes of a packet, or the empty text of one that is not right; all old memory stays (condition: the body is a string). · Proved here: errors.Is of errors of errors.New's make: the same one, none, another one; nothing changes (conditions: both lie in memory as a new one does). · Proved here: impl.codeOf answers the code of each of the package's errors; nothing changes (condition: the four package variables hold four errors of errors.New's make). · Proved here: spec.l03Place answers the place of a check, spec.l03Blank a packet's text without both checks; memory stays (conditions: the text reaches behind the second check, at most 8000 bytes). -/
import Derived.Test.YthfhbmiddillbafDoorAll5
import Derived.Test.YthfhbmiddillbafDoorAll7
import Derived.Test.YthfhbmiddillbafDoorRows
import Derived.WalkKit
import Derived.WalkSpells
import Derived.ProofKit
import Derived.LaidEql
import Derived.Stop.Asserts
import Derived.RowKitTokens
import Derived.Test.YthfhbmiddillbafDoorAll0
import Derived.Test.YthfhbmiddillbafDoorAll1
section
namespace Go.Proofs.YthfhbmiddillbafDoor
open Go.ChangeShapes Go.WideShapes Go.ChangeAt Go.RowKit
set_option linter.unusedVariables false
set_option maxRecDepth 100000
set_option linter.unusedSimpArgs false

theorem l03Tail_x (p : Pk) (c : Int) (w : World) (h : Fine p) (hc : wordB c = true) :
    Calls Tryd.prog 26 #[.agg #[.int .i64 p.src, .int .i64 p.dst, .int .i64 p.proto, .int .i64 p.a, .int .i64 p.b, .int .i64 p.kind, .int .i64 p.flags, .int .i64 p.seq, .int .i64 p.ack, .string p.body], .int .i64 c] w fun e w' => e = .returned (.string (tailT p c.toNat)) ∧ Below w.heap.size w w' := by
  obtain ⟨n, rfl⟩ : ∃ n : Nat, c = n := ⟨c.toNat, by have := wordB_iff.1 hc; omega⟩
  exact l03Tail_any p n w h (by have := wordB_iff.1 hc; omega)
theorem l03Head_x (p : Pk) (n : Nat) (c : Int) (w : World) (h : Fine p) (hn : n ≤ 1000) (hc : wordB c = true) :
    Calls Tryd.prog 28 #[.agg #[.int .i64 p.src, .int .i64 p.dst, .int .i64 p.proto, .int .i64 p.a, .int .i64 p.b, .int .i64 p.kind, .int .i64 p.flags, .int .i64 p.seq, .int .i64 p.ack, .string p.body], .int .i64 (n : Int), .int .i64 c] w fun e w' => e = .returned (.string (headT p n c)) ∧ Below w.heap.size w w' :=
  l03Head_any p n c w h.src h.dst (by rcases h.proto with q | q | q <;> omega) (by rcases h.proto with q | q | q <;> omega) hn hc
/-- the bytes of a right packet -/
def bytesOf (p : Pk) : ByteArray := headT p (tailT p (checkT p).toNat).size (checkAns (headT p (tailT p (checkT p).toNat).size 0)) ++ tailT p (checkT p).toNat

set_option maxHeartbeats 4000000 in
theorem l03Bytes_any (p : Pk) (w : World) (h : Fine p) :
    Calls Tryd.prog 12 #[.agg #[.int .i64 p.src, .int .i64 p.dst, .int .i64 p.proto, .int .i64 p.a, .int .i64 p.b, .int .i64 p.kind, .int .i64 p.flags, .int .i64 p.seq, .int .i64 p.ack, .string p.body]] w fun e w' => e = .returned (.string (bytesOf p)) ∧ Below w.heap.size w w' := by
  have hS := h.small (checkT p).toNat
  have hck := checkT_word p
  have HF := hidS h
  clear h
  have HP := hidS (PkAt.new p w)
  have hB1 := hidS ((Below.refl w.heap.size w).alloc (Nat.le_refl _) (.cells #[.int .i64 p.src, .int .i64 p.dst, .int .i64 p.proto, .int .i64 p.a, .int .i64 p.b, .int .i64 p.kind, .int .i64 p.flags, .int .i64 p.seq, .int .i64 p.ack, .string p.body] 23))
  go_enter Tryd.func12, Tryd.ntmps12
  go_wp2_with fail
  generalize w.alloc (.cells #[.int .i64 p.src, .int .i64 p.dst, .int .i64 p.proto, .int .i64 p.a, .int .i64 p.b, .int .i64 p.kind, .int .i64 p.flags, .int .i64 p.seq, .int .i64 p.ack, .string p.body] 23) = w1 at HP hB1 ⊢
  refine grow_kinds 5 [.is (.agg #[.int .i64 p.src, .int .i64 p.dst, .int .i64 p.proto, .int .i64 p.a, .int .i64 p.b, .int .i64 p.kind, .int .i64 p.flags, .int .i64 p.seq, .int .i64 p.ack, .string p.body]), .is (.agg #[.int .i64 p.src, .int .i64 p.dst, .int .i64 p.proto, .int .i64 p.a, .int .i64 p.b, .int .i64 p.kind, .int .i64 p.flags, .int .i64 p.seq, .int .i64 p.ack, .string p.body]), .is (.int .i64 (checkT p)), .is (.string (tailT p (checkT p).toNat)), .is (.string (tailT p (checkT p).toNat))] rfl (by kernel_rfl) (by kernel_rfl) ?steps ?fin
  case steps =>
    refine ⟨?_, ?_, ?_, ?_, ?_, trivial⟩
    · refine ⟨rfl, fun v W ρ hC kc kf ks ki kd => ?_⟩
      have t1 : ρ (.tmp 1) = .pointer (some ⟨w.heap.size, 0, none⟩) := ki 1 (by decide)
      have hp := HP.out.later hC
      obtain ⟨c0, c1, c2, c3, c4, c5, c6, c7, c8, c9⟩ := hp
      simp [execOp, go_sem, t1, c0, c1, c2, c3, c4, c5, c6, c7, c8, c9]
      exact ⟨hC, Below.refl _ _, rfl⟩
    · refine ⟨rfl, fun v W ρ hC kc kf ks ki kd => ?_⟩
      have t1 : ρ (.tmp 1) = .pointer (some ⟨w.heap.size, 0, none⟩) := ki 1 (by decide)
      have hp := HP.out.later hC
      obtain ⟨c0, c1, c2, c3, c4, c5, c6, c7, c8, c9⟩ := hp
      simp [execOp, go_sem, t1, c0, c1, c2, c3, c4, c5, c6, c7, c8, c9]
      exact ⟨hC, Below.refl _ _, rfl⟩
    · refine ⟨rfl, fun v W ρ hC kc kf ks ki kd => ?_⟩
      have d1 : v 1 = .agg #[.int .i64 p.src, .int .i64 p.dst, .int .i64 p.proto, .int .i64 p.a, .int .i64 p.b, .int .i64 p.kind, .int .i64 p.flags, .int .i64 p.seq, .int .i64 p.ack, .string p.body] := kd _ (Array.mem_of_getElem? (i := 0) rfl) rfl
      have t6 : ρ (.tmp 6) = v 1 := ks 1 6 (by decide) rfl
      rw [d1] at t6
      simp [execOp, go_sem, t6, kf]
      exact Calls.mono (l03Check_any p _ HF.out) (fun e x h => ⟨_, h.1, hC.trans (h.2.mono hC.size), h.2, rfl⟩)
    · refine ⟨rfl, fun v W ρ hC kc kf ks ki kd => ?_⟩
      have d0 : v 0 = .agg #[.int .i64 p.src, .int .i64 p.dst, .int .i64 p.proto, .int .i64 p.a, .int .i64 p.b, .int .i64 p.kind, .int .i64 p.flags, .int .i64 p.seq, .int .i64 p.ack, .string p.body] := kd _ (Array.mem_of_getElem? (i := 0) rfl) rfl
      have t5 : ρ (.tmp 5) = v 0 := ks 0 5 (by decide) rfl
      rw [d0] at t5
      have d2 : v 2 = .int .i64 (checkT p) := kd _ (Array.mem_of_getElem? (i := 1) rfl) rfl
      have t7 : ρ (.tmp 7) = v 2 := ks 2 7 (by decide) rfl
      rw [d2] at t7
      simp [execOp, go_sem, t5, t7, kf]
      exact Calls.mono (l03Tail_x p _ _ HF.out hck) (fun e x h => ⟨_, h.1, hC.trans (h.2.mono hC.size), h.2, rfl⟩)
    · refine ⟨rfl, fun v W ρ hC kc kf ks ki kd => ?_⟩
      have d3 : v 3 = .string (tailT p (checkT p).toNat) := kd _ (Array.mem_of_getElem? (i := 0) rfl) rfl
      have t8 : ρ (.tmp 8) = v 3 := ks 3 8 (by decide) rfl
      rw [d3] at t8
      simp [execOp, go_sem, t8]
      exact ⟨hC, Below.refl _ _, rfl⟩
  case fin =>
    intro v W hC hall
    have hL3 : v 4 = .string (tailT p (checkT p).toNat) := hall 4 (by decide)
    simp [upto, Act.put]
    rw [hL3]
    clear hall hL3
    have hB2 := hidS (hB1.out.trans (hC.mono hB1.out.size))
    have HP2 := hidS (HP.out.later hC)
    clear hC hB1 HP
    have hE : Hid (bytesOf p = headT p (tailT p (checkT p).toNat).size (checkAns (headT p (tailT p (checkT p).toNat).size 0)) ++ tailT p (checkT p).toNat) := rfl
    generalize tailT p (checkT p).toNat = t at hS hE ⊢
    have hck1 : wordB (checkAns (headT p t.size 0)) = true := checkAns_word
    have z1 := headT_size p t.size (checkAns (headT p t.size 0))
    have z2 := headT_size p t.size 0
    have HP := HP2
    have hB1 := hB2
    go_wp2_with fail
    refine grow_kinds 10 [.is (.agg #[.int .i64 p.src, .int .i64 p.dst, .int .i64 p.proto, .int .i64 p.a, .int .i64 p.b, .int .i64 p.kind, .int .i64 p.flags, .int .i64 p.seq, .int .i64 p.ack, .string p.body]), .is (.int .i64 (t.size : Int)), .is (.agg #[.int .i64 p.src, .int .i64 p.dst, .int .i64 p.proto, .int .i64 p.a, .int .i64 p.b, .int .i64 p.kind, .int .i64 p.flags, .int .i64 p.seq, .int .i64 p.ack, .string p.body]), .is (.int .i64 (t.size : Int)), .is (.string (headT p t.size 0)), .is (.int .i64 (checkAns (headT p t.size 0))), .is (.string (headT p t.size (checkAns (headT p t.size 0)))), .is (.string t), .is (.string (headT p t.size (checkAns (headT p t.size 0)) ++ t)), .is (.string (headT p t.size (checkAns (headT p t.size 0)) ++ t))] rfl (by kernel_rfl) (by kernel_rfl) ?steps ?fin
    case steps =>
      refine ⟨?_, ?_, ?_, ?_, ?_, ?_, ?_, ?_, ?_, ?_, trivial⟩
      · refine ⟨rfl, fun v W ρ hC kc kf ks ki kd => ?_⟩
        have t1 : ρ (.tmp 1) = .pointer (some ⟨w.heap.size, 0, none⟩) := ki 1 (by decide)
        have hp := HP.out.later hC
        obtain ⟨c0, c1, c2, c3, c4, c5, c6, c7, c8, c9⟩ := hp
        simp [execOp, go_sem, t1, c0, c1, c2, c3, c4, c5, c6, c7, c8, c9]
        exact ⟨hC, Below.refl _ _, rfl⟩
      · refine ⟨rfl, fun v W ρ hC kc kf ks ki kd => ?_⟩
        have t4 : ρ (.tmp 4) = .int .i64 (t.size : Int) := ki 4 (by decide)
        simp [execOp, go_sem, t4]
        exact ⟨hC, Below.refl _ _, rfl⟩
      · refine ⟨rfl, fun v W ρ hC kc kf ks ki kd => ?_⟩
        have t1 : ρ (.tmp 1) = .pointer (some ⟨w.heap.size, 0, none⟩) := ki 1 (by decide)
        have hp := HP.out.later hC
        obtain ⟨c0, c1, c2, c3, c4, c5, c6, c7, c8, c9⟩ := hp
        simp [execOp, go_sem, t1, c0, c1, c2, c3, c4, c5, c6, c7, c8, c9]
        exact ⟨hC, Below.refl _ _, rfl⟩
      · refine ⟨rfl, fun v W ρ hC kc kf ks ki kd => ?_⟩
        have t4 : ρ (.tmp 4) = .int .i64 (t.size : Int) := ki 4 (by decide)
        simp [execOp, go_sem, t4]
        exact ⟨hC, Below.refl _ _, rfl⟩
      · refine ⟨rfl, fun v W ρ hC kc kf ks ki kd => ?_⟩
        have d2 : v 2 = .agg #[.int .i64 p.src, .int .i64 p.dst, .int .i64 p.proto, .int .i64 p.a, .int .i64 p.b, .int .i64 p.kind, .int .i64 p.flags, .int .i64 p.seq, .int .i64 p.ack, .string p.body] := kd _ (Array.mem_of_getElem? (i := 0) rfl) rfl
        have t13 : ρ (.tmp 13) = v 2 := ks 2 13 (by decide) rfl
        rw [d2] at t13
        have d3 : v 3 = .int .i64 (t.size : Int) := kd _ (Array.mem_of_getElem? (i := 1) rfl) rfl
        have t14 : ρ (.tmp 14) = v 3 := ks 3 14 (by decide) rfl
        rw [d3] at t14
        simp [execOp, go_sem, t13, t14, kf, kc]
        exact Calls.mono (l03Head_x p _ _ _ HF.out (by omega) rfl) (fun e x h => ⟨_, h.1, hC.trans (h.2.mono hC.size), h.2, rfl⟩)
      · refine ⟨rfl, fun v W ρ hC kc kf ks ki kd => ?_⟩
        have d4 : v 4 = .string (headT p t.size 0) := kd _ (Array.mem_of_getElem? (i := 0) rfl) rfl
        have t15 : ρ (.tmp 15) = v 4 := ks 4 15 (by decide) rfl
        rw [d4] at t15
        simp [execOp, go_sem, t15, kf]
        exact Calls.mono (specCheckOf_b _ _ (by rw [z2]; unfold maxLen; omega)) (fun e x h => ⟨_, h.1, hC.trans (h.2.mono hC.size), h.2, rfl⟩)
      · refine ⟨rfl, fun v W ρ hC kc kf ks ki kd => ?_⟩
        have d0 : v 0 = .agg #[.int .i64 p.src, .int .i64 p.dst, .int .i64 p.proto, .int .i64 p.a, .int .i64 p.b, .int .i64 p.kind, .int .i64 p.flags, .int .i64 p.seq, .int .i64 p.ack, .string p.body] := kd _ (Array.mem_of_getElem? (i := 0) rfl) rfl
        have t11 : ρ (.tmp 11) = v 0 := ks 0 11 (by decide) rfl
        rw [d0] at t11
        have d1 : v 1 = .int .i64 (t.size : Int) := kd _ (Array.mem_of_getElem? (i := 1) rfl) rfl
        have t12 : ρ (.tmp 12) = v 1 := ks 1 12 (by decide) rfl
        rw [d1] at t12
        have d5 : v 5 = .int .i64 (checkAns (headT p t.size 0)) := kd _ (Array.mem_of_getElem? (i := 2) rfl) rfl
        have t16 : ρ (.tmp 16) = v 5 := ks 5 16 (by decide) rfl
        rw [d5] at t16
        simp [execOp, go_sem, t11, t12, t16, kf]
        exact Calls.mono (l03Head_x p _ _ _ HF.out (by omega) hck1) (fun e x h => ⟨_, h.1, hC.trans (h.2.mono hC.size), h.2, rfl⟩)
      · refine ⟨rfl, fun v W ρ hC kc kf ks ki kd => ?_⟩
        have t3 : ρ (.tmp 3) = .string t := ki 3 (by decide)
        simp [execOp, go_sem, t3]
        exact ⟨hC, Below.refl _ _, rfl⟩
      · refine ⟨rfl, fun v W ρ hC kc kf ks ki kd => ?_⟩
        have d6 : v 6 = .string (headT p t.size (checkAns (headT p t.size 0))) := kd _ (Array.mem_of_getElem? (i := 0) rfl) rfl
        have t17 : ρ (.tmp 17) = v 6 := ks 6 17 (by decide) rfl
        rw [d6] at t17
        have d7 : v 7 = .string t := kd _ (Array.mem_of_getElem? (i := 1) rfl) rfl
        have t18 : ρ (.tmp 18) = v 7 := ks 7 18 (by decide) rfl
        rw [d7] at t18
        simp [execOp, go_sem, t17, t18]
        first | exact ⟨hC, Below.refl _ _, rfl⟩ | (rw [if_neg (by omega)]; exact ⟨hC, Below.refl _ _, rfl⟩)
      · refine ⟨rfl, fun v W ρ hC kc kf ks ki kd => ?_⟩
        have d8 : v 8 = .string (headT p t.size (checkAns (headT p t.size 0)) ++ t) := kd _ (Array.mem_of_getElem? (i := 0) rfl) rfl
        have t19 : ρ (.tmp 19) = v 8 := ks 8 19 (by decide) rfl
        rw [d8] at t19
        simp [execOp, go_sem, t19]
        exact ⟨hC, Below.refl _ _, rfl⟩
    case fin =>
      intro v W hC hall
      have hL2 : v 9 = .string (headT p t.size (checkAns (headT p t.size 0)) ++ t) := hall 9 (by decide)
      simp [upto, Act.put]
      rw [hL2]
      clear hall hL2
      have hE2 := hidS (hB1.out.trans (hC.mono hB1.out.size))
      go_wp2
      go_ret
      exact ⟨by rw [hE.out]; rfl, hE2.out⟩
/-- what PacketBytes is to answer -/
def bytesAns (p : Pk) : ByteArray := if rightB p = true then bytesOf p else ⟨#[]⟩
end Go.Proofs.YthfhbmiddillbafDoor
end

section
namespace Go.Proofs.YthfhbmiddillbafDoor
open Go.ChangeShapes Go.WideShapes Go.ChangeAt Go.RowKit
open Go.ChangeMaps (open_string shut_string)
set_option linter.unusedVariables false
set_option maxRecDepth 100000

theorem over_mid (A B C m : List UInt8) (h : B.length = m.length) : over (A ++ B ++ C) A.length m = A ++ m ++ C := by
  unfold over
  rw [← h]
  congr 1
  · rw [List.append_assoc A B C, List.take_left]
  · have : A.length + B.length = (A ++ B).length := by simp
    rw [this, List.drop_left]
/-- what is around the check -/
def Around (p : Pk) (k : Nat) : Prop := ∃ A C : List UInt8, A.length + 20 = k ∧ ∀ c, (tailT p c).data.toList = A ++ (twoT c).data.toList ++ C
theorem Around.size {p : Pk} {k : Nat} (h : Around p k) (c : Nat) : (tailT p c).size = (tailT p 0).size := by
  obtain ⟨A, C, _, h⟩ := h
  have e : ∀ c, (tailT p c).size = (tailT p c).data.toList.length := fun c => by simp
  rw [e, e, h, h]; simp [two_list]
theorem around_tcp (p : Pk) (h6 : p.proto = 6) : Around p 36 := by
  refine ⟨(twoT p.a.toNat ++ twoT p.b.toNat ++ fourT p.seq.toNat ++ fourT p.ack.toNat ++ rowT [80, p.flags, 32, 0]).data.toList, (⟨#[0, 0]⟩ ++ p.body : ByteArray).data.toList, ?_, fun c => ?_⟩
  · have a1 := fourT_size p.seq.toNat
    have a2 := fourT_size p.ack.toNat
    have a3 := twoT_size p.a.toNat
    have a4 := twoT_size p.b.toNat
    have a5 : (rowT [80, p.flags, 32, 0]).size = 4 := rowT_size _
    simp [a1, a2, a3, a4, a5]
  · unfold tailT; rw [if_pos h6]; simp
theorem around_udp (p : Pk) (h17 : p.proto = 17) : Around p 26 := by
  refine ⟨(twoT p.a.toNat ++ twoT p.b.toNat ++ twoT (8 + (p.body.size : Int)).toNat).data.toList, p.body.data.toList, ?_, fun c => ?_⟩
  · have a3 := twoT_size p.a.toNat
    have a4 := twoT_size p.b.toNat
    have a5 := twoT_size (8 + (p.body.size : Int)).toNat
    simp [a3, a4, a5]
  · unfold tailT; rw [if_neg (by omega), if_pos h17]; simp
theorem around_ping (p : Pk) (h1 : p.proto = 1) : Around p 22 := by
  by_cases h3 : p.kind = 3
  · refine ⟨(rowT [p.kind, 1]).data.toList, (twoT p.a.toNat ++ twoT p.seq.toNat ++ p.body).data.toList, by have := rowT_size [p.kind, 1]; simpa using this, fun c => ?_⟩
    unfold tailT; rw [if_neg (by omega), if_neg (by omega), if_pos h3]; simp
  · refine ⟨(rowT [p.kind, 0]).data.toList, (twoT p.a.toNat ++ twoT p.seq.toNat ++ p.body).data.toList, by have := rowT_size [p.kind, 0]; simpa using this, fun c => ?_⟩
    unfold tailT; rw [if_neg (by omega), if_neg (by omega), if_neg h3]; simp
theorem bytes_put (p : Pk) (k : Nat) (h : Around p k) (hd : ByteArray) (h20 : hd.size = 20) (c : Nat) :
    (⟨(putAll (twoT c).data.toList (catT [hd, tailT p 0]).data.toList [k]).toArray⟩ : ByteArray) = hd ++ tailT p c := by
  obtain ⟨A, C, hA, hT⟩ := h
  have hh : hd.data.toList.length = 20 := by simpa using h20
  have e1 : (catT [hd, tailT p 0]).data.toList = (hd.data.toList ++ A) ++ (twoT 0).data.toList ++ C := by
    rw [cat2, ByteArray.data_append, Array.toList_append, hT 0]; simp
  have hk : k = (hd.data.toList ++ A).length := by simp [h20]; omega
  have hl : ((hd.data.toList ++ A) ++ (twoT 0).data.toList ++ C).length = k + 2 + C.length := by rw [List.length_append, List.length_append, ← hk]; rfl
  show (⟨(putAt (twoT c).data.toList (catT [hd, tailT p 0]).data.toList k).toArray⟩ : ByteArray) = _
  rw [e1]
  unfold putAt
  rw [if_pos (by omega), List.take_of_length_le (by rw [hl, two_list]; simp; omega), hk, over_mid _ _ _ _ (by simp [two_list])]
  refine ByteArray.ext ?_
  rw [ByteArray.data_append]
  apply Array.toList_inj.1
  rw [Array.toList_append, hT c]
  simp
theorem bytes_eq (p : Pk) (k : Nat) (h : Around p k) : headT p (tailT p 0).size (checkAns (headT p (tailT p 0).size 0)) ++ tailT p (checkT p).toNat = bytesOf p := by
  unfold bytesOf
  rw [h.size (checkT p).toNat]

theorem tail_tcp (p : Pk) (h6 : p.proto = 6) : catT [twoT p.a.toNat, twoT p.b.toNat, fourT p.seq.toNat, fourT p.ack.toNat, rowT [80, p.flags, 32, 0, 0, 0, 0, 0], p.body] = tailT p 0 := by
  unfold tailT; rw [if_pos h6]
  refine ByteArray.ext ?_
  apply Array.toList_inj.1
  have e : (rowT [80, p.flags, 32, 0, 0, 0, 0, 0]).data.toList = (rowT [80, p.flags, 32, 0]).data.toList ++ (twoT 0).data.toList ++ [0, 0] := rfl
  simp [catT, catL, e]
theorem tail_udp (p : Pk) (h17 : p.proto = 17) : catT [twoT p.a.toNat, twoT p.b.toNat, twoT (8 + (p.body.size : Int)).toNat, twoT 0, p.body] = tailT p 0 := by
  unfold tailT; rw [if_neg (by omega), if_pos h17]
  refine ByteArray.ext ?_
  apply Array.toList_inj.1
  simp [catT, catL]
theorem tail_err (p : Pk) (h1 : p.proto = 1) (h3 : p.kind = 3) (ha : p.a = 0) (hq : p.seq = 0) : catT [rowT [3, 1, 0, 0, 0, 0, 0, 0], p.body] = tailT p 0 := by
  unfold tailT; rw [if_neg (by omega), if_neg (by omega), if_pos h3, h3, ha, hq]
  refine ByteArray.ext ?_
  apply Array.toList_inj.1
  have e : (rowT [3, 1, 0, 0, 0, 0, 0, 0]).data.toList = (rowT [3, 1]).data.toList ++ (twoT 0).data.toList ++ (twoT 0).data.toList ++ (twoT 0).data.toList := rfl
  simp [catT, catL, e]
theorem tail_echo (p : Pk) (h1 : p.proto = 1) (h3 : p.kind ≠ 3) : catT [rowT [p.kind, 0, 0, 0], twoT p.a.toNat, twoT p.seq.toNat, p.body] = tailT p 0 := by
  unfold tailT; rw [if_neg (by omega), if_neg (by omega), if_neg h3]
  refine ByteArray.ext ?_
  apply Array.toList_inj.1
  have e : (rowT [p.kind, 0, 0, 0]).data.toList = (rowT [p.kind, 0]).data.toList ++ (twoT 0).data.toList := rfl
  simp [catT, catL, e]
theorem err_zero {p : Pk} (h : rightB p = true) (h1 : p.proto = 1) (h3 : p.kind = 3) : p.a = 0 ∧ p.seq = 0 := by
  unfold rightB pingB at h
  rw [if_neg (by omega), if_neg (by omega), if_pos h1, if_pos h3] at h
  simp only [Bool.and_eq_true, decide_eq_true_eq] at h
  exact ⟨h.2.2.1.1, h.2.2.1.2⟩

/-- a right packet's bytes, whatever its part -/
theorem implBytes_of (p : Pk) (T : TypeId) (val : Value) (fb : FuncId) (k : Nat) (w : World) (h : rightB p = true) (hA : Around p k) (hk : k ≤ 100)
    (hPT : ∀ W, Calls Tryd.prog 35 #[.agg #[.int .i64 p.src, .int .i64 p.dst, .int .i64 p.proto, .int .i64 p.a, .int .i64 p.b, .int .i64 p.kind, .int .i64 p.flags, .int .i64 p.seq, .int .i64 p.ack, .string p.body]] W fun e w' => e = .returned (.iface T val) ∧ Below W.heap.size W w')
    (hm1 : ∀ W, (method 262 T val "loop.example/g00542/impl.bytes").run Tryd.prog W = .ok (fb, val) W)
    (hc1 : ∀ W, (callFunc fb #[val]).run Tryd.prog W = .ok (.enter fb #[val]) W)
    (hB : ∀ W, Calls Tryd.prog fb #[val] W fun e w' => e = .returned (.string (tailT p 0)) ∧ Below W.heap.size W w')
    (hCP : ∀ W, Calls Tryd.prog 50 #[.agg #[.int .i64 p.src, .int .i64 p.dst, .int .i64 p.proto, .int .i64 p.a, .int .i64 p.b, .int .i64 p.kind, .int .i64 p.flags, .int .i64 p.seq, .int .i64 p.ack, .string p.body], .iface T val, .string (tailT p 0)] W fun e w' => e = .returned (.int .i64 (partC p (tailT p 0))) ∧ Below W.heap.size W w')
    (hCA : ∀ W, Calls Tryd.prog 34 #[.iface T val] W fun e w' => e = .returned (.int .i64 (k : Int)) ∧ Below W.heap.size W w') :
    Calls Tryd.prog 33 #[.agg #[.int .i64 p.src, .int .i64 p.dst, .int .i64 p.proto, .int .i64 p.a, .int .i64 p.b, .int .i64 p.kind, .int .i64 p.flags, .int .i64 p.seq, .int .i64 p.ack, .string p.body]] w fun e w' => e = .returned (.string (bytesOf p)) ∧ Below w.heap.size w w' := by
  have hs := (fine_of h).small 0
  have := implBytes_gen p T val fb (tailT p 0) k w h (by omega) hk hPT hm1 hc1 hB hCP hCA
  rw [bytes_put p k hA _ (headT_size _ _ _), partC_tail, bytes_eq p k hA] at this
  exact this

theorem implBytes_no (p : Pk) (w : World) (hs : p.body.size ≤ maxLen) (h : rightB p = false) :
    Calls Tryd.prog 33 #[.agg #[.int .i64 p.src, .int .i64 p.dst, .int .i64 p.proto, .int .i64 p.a, .int .i64 p.b, .int .i64 p.kind, .int .i64 p.flags, .int .i64 p.seq, .int .i64 p.ack, .string p.body]] w fun e w' => e = .returned (.string ⟨#[]⟩) ∧ Below w.heap.size w w' := by
  have hX := hidS (fun W => implRight_any p W hs)
  have hB1 := hidS ((Below.refl w.heap.size w).alloc (Nat.le_refl _) (.cells #[.int .i64 p.src, .int .i64 p.dst, .int .i64 p.proto, .int .i64 p.a, .int .i64 p.b, .int .i64 p.kind, .int .i64 p.flags, .int .i64 p.seq, .int .i64 p.ack, .string p.body] 23))
  go_enter Tryd.func33, Tryd.ntmps33
  go_wp2_with fail
  refine (hX.out _).mono ?_
  rintro _ w2 ⟨rfl, hb2⟩
  rw [h]
  have hL := hidS (hB1.out.trans (hb2.mono hB1.out.size))
  clear hB1 hb2 hX
  go_wp2_with fail
  go_ret
  exact ⟨rfl, hL.out⟩

theorem implBytes_any (p : Pk) (w : World) (hs : p.body.size ≤ maxLen) :
    Calls Tryd.prog 33 #[.agg #[.int .i64 p.src, .int .i64 p.dst, .int .i64 p.proto, .int .i64 p.a, .int .i64 p.b, .int .i64 p.kind, .int .i64 p.flags, .int .i64 p.seq, .int .i64 p.ack, .string p.body]] w fun e w' => e = .returned (.string (bytesAns p)) ∧ Below w.heap.size w w' := by
  cases h : rightB p
  · have e : bytesAns p = ⟨#[]⟩ := if_neg (by rw [h]; simp)
    rw [e]; exact implBytes_no p w hs h
  have e : bytesAns p = bytesOf p := if_pos h
  rw [e]
  have F := fine_of h
  have hb := F.body
  have hT := F.small 0
  have hf := flagB_iff.1 F.flags
  rcases F.proto with h6 | h17 | h1
  · exact implBytes_of p 78 _ 96 36 w h (around_tcp p h6) (by omega) (fun W => partOf_tcp p W h6) (meth_tcp_bytes _) (enter_tcp_bytes _)
      (fun W => by rw [← tail_tcp p h6]; exact tcpBytes_x p.a p.b p.seq p.ack p.flags p.body W F.a F.b F.seq F.ack (by omega) (by omega) (by omega)) (fun W => checkOfPart_tcp p _ _ W h6 F.src F.dst (by omega)) (fun W => checkAt_tcp _ W)
  · exact implBytes_of p 80 _ 99 26 w h (around_udp p h17) (by omega) (fun W => partOf_udp p W h17) (meth_udp_bytes _) (enter_udp_bytes _)
      (fun W => by rw [← tail_udp p h17]; exact udpBytes_x p.a p.b p.body W F.a F.b (by omega)) (fun W => checkOfPart_udp p _ _ W h17 F.src F.dst (by omega)) (fun W => checkAt_udp _ W)
  · by_cases h3 : p.kind = 3
    · obtain ⟨ha, hq⟩ := err_zero h h1 h3
      exact implBytes_of p 82 _ 102 22 w h (around_ping p h1) (by omega) (fun W => partOf_err p W h1 h3) (meth_err_bytes _) (enter_err_bytes _)
        (fun W => by rw [← tail_err p h1 h3 ha hq]; exact errBytes_x p.body W (by omega)) (fun W => checkOfPart_err p _ _ W h1 (by omega)) (fun W => checkAt_err _ W)
    · have k0 := F.kind0
      have k1 := F.kind1
      exact implBytes_of p 84 _ 105 22 w h (around_ping p h1) (by omega) (fun W => partOf_echo p W h1 h3) (meth_echo_bytes _) (enter_echo_bytes _)
        (fun W => by rw [← tail_echo p h1 h3]; exact echoBytes_x p.kind p.a p.seq p.body W F.a (F.seqW h1) (by omega) (by omega) (by omega)) (fun W => checkOfPart_echo p _ _ W h1 (by omega)) (fun W => checkAt_echo _ W)
end Go.Proofs.YthfhbmiddillbafDoor
end

section
namespace Go.Proofs.YthfhbmiddillbafDoor
open Go.RowKit Go.Extern.Stop Go.Stop Go.Extern
set_option linter.unusedVariables false

theorem isTypeOf (v : Value) (w : World) : (callFunc 59 #[.iface 128 v]).run Tryd.prog w = .ok (.value (.iface 114 (.agg #[typeHandle Tryd.prog 128]))) w := by kernel_rfl
theorem isComparable (w : World) : (callFunc 111 #[.agg #[typeHandle Tryd.prog 128]]).run Tryd.prog w = .ok (.value (.bool true)) w := by kernel_rfl
theorem isMethodComparable (v : Value) (w : World) : (Go.method 262 114 v "Comparable").run Tryd.prog w = .ok (111, v) w := by kernel_rfl
theorem isComp : (Tryd.prog.info? 128).map (·.comparable) = some true := by kernel_rfl
theorem isSize : (Tryd.prog.info? 151).map (·.size) = some 1 := by kernel_rfl
theorem noIsE (v : Value) (xT : TypeId) (w : World) : (Instr.typeAssert (.iface 128 v) xT 116 true).run Tryd.prog w = .ok (.tuple #[.nilIface, .bool false]) w := run_typeAssert_lacksB Tryd.underlying116 (by kernel_rfl) (by kernel_rfl) v xT w
theorem noUnwrapE (v : Value) (xT : TypeId) (w : World) : (Instr.typeAssert (.iface 128 v) xT 119 true).run Tryd.prog w = .ok (.tuple #[.nilIface, .bool false]) w := run_typeAssert_lacksB Tryd.underlying119 (by kernel_rfl) (by kernel_rfl) v xT w
theorem noUnwrapsE (v : Value) (xT : TypeId) (w : World) : (Instr.typeAssert (.iface 128 v) xT 121 true).run Tryd.prog w = .ok (.tuple #[.nilIface, .bool false]) w := run_typeAssert_lacksB Tryd.underlying121 (by kernel_rfl) (by kernel_rfl) v xT w

theorem is_same (a : Addr) (w : World) :
    Calls Tryd.prog 44 #[.iface 128 (.pointer (some a)), .iface 128 (.pointer (some a))] w fun e w' => e = .returned (.bool true) ∧ w' = w := by
  obtain ⟨i, hi, hcmp⟩ := Option.map_eq_some_iff.1 isComp
  obtain ⟨j, hj, hjs⟩ := Option.map_eq_some_iff.1 isSize
  have tT := isTypeOf
  have cT := isComparable
  have mR := isMethodComparable
  have heq := run_eql_iface_ptr_same (P := Tryd.prog) w a Tryd.underlying37 Tryd.underlying128 hi hcmp hj
  go_enter Tryd.func44, Tryd.ntmps44
  go_wp2
  refine wp_loop_rounds 1 ?_
  rw [rounds_succ]
  go_wp2
  go_ret
  exact ⟨rfl, rfl⟩

theorem is_nil (b : Addr) (w : World) :
    Calls Tryd.prog 44 #[.nilIface, .iface 128 (.pointer (some b))] w fun e w' => e = .returned (.bool false) ∧ w' = w := by
  have hn := run_eql_iface_nil_left (P := Tryd.prog) w 128 (.pointer (some b)) Tryd.underlying37
  go_enter Tryd.func44, Tryd.ntmps44
  go_wp2
  go_ret
  exact ⟨rfl, rfl⟩

theorem is_other (a b : Addr) (ca cb : Array Value) (ta tb : TypeId) (w : World) (hne : a ≠ b) (ha : w.heap[a.block]? = some (.cells ca ta (0, 0))) (hb : w.heap[b.block]? = some (.cells cb tb (0, 0))) :
    Calls Tryd.prog 44 #[.iface 128 (.pointer (some a)), .iface 128 (.pointer (some b))] w fun e w' => e = .returned (.bool false) ∧ w' = w := by
  obtain ⟨i, hi, hcmp⟩ := Option.map_eq_some_iff.1 isComp
  obtain ⟨j, hj, hjs⟩ := Option.map_eq_some_iff.1 isSize
  have tT := isTypeOf
  have cT := isComparable
  have mR := isMethodComparable
  have nE := noIsE
  have uE := noUnwrapE
  have vE := noUnwrapsE
  have heq := run_eql_iface_ptr_other (P := Tryd.prog) w Tryd.underlying37 Tryd.underlying128 hi hcmp hj (by rw [hjs]; decide) hne ha hb
  go_enter Tryd.func44, Tryd.ntmps44
  go_wp2
  refine wp_loop_rounds 1 ?_
  rw [rounds_succ]
  go_wp2
  go_ret
  exact ⟨rfl, rfl⟩
end Go.Proofs.YthfhbmiddillbafDoor
end

section
namespace Go.Proofs.YthfhbmiddillbafDoor
open Go.ChangeShapes Go.WideShapes Go.ChangeAt Go.RowKit
set_option linter.unusedVariables false
set_option maxRecDepth 100000

/-- an error of errors.New's make lies there -/
def ErrAt (a : Addr) (w : World) : Prop := ∃ c t, w.heap[a.block]? = some (.cells c t (0, 0))
theorem ErrAt.later {a : Addr} {w w' : World} (h : ErrAt a w) (hb : Below w.heap.size w w') : ErrAt a w' := by
  obtain ⟨c, t, h⟩ := h
  exact ⟨c, t, (hb.block a.block (Array.getElem?_eq_some_iff.1 h).1).trans h⟩
/-- the four package variables -/
structure Sent (aF aS aY aM : Addr) (w : World) : Prop where
  cF : w.cell? ⟨3, 0, none⟩ = some (.iface 128 (.pointer (some aF)))
  cS : w.cell? ⟨0, 0, none⟩ = some (.iface 128 (.pointer (some aS)))
  cY : w.cell? ⟨1, 0, none⟩ = some (.iface 128 (.pointer (some aY)))
  cM : w.cell? ⟨2, 0, none⟩ = some (.iface 128 (.pointer (some aM)))
  bF : ErrAt aF w
  bS : ErrAt aS w
  bY : ErrAt aY w
  bM : ErrAt aM w
  nFS : aF ≠ aS
  nFY : aF ≠ aY
  nFM : aF ≠ aM
  nSY : aS ≠ aY
  nSM : aS ≠ aM
  nYM : aY ≠ aM
theorem Sent.later {aF aS aY aM : Addr} {w w' : World} (h : Sent aF aS aY aM w) (hb : Below w.heap.size w w') : Sent aF aS aY aM w' :=
  ⟨(hb.cell (World.block_lt_of_cell? w _ h.cF)).trans h.cF, (hb.cell (World.block_lt_of_cell? w _ h.cS)).trans h.cS, (hb.cell (World.block_lt_of_cell? w _ h.cY)).trans h.cY, (hb.cell (World.block_lt_of_cell? w _ h.cM)).trans h.cM, h.bF.later hb, h.bS.later hb, h.bY.later hb, h.bM.later hb, h.nFS, h.nFY, h.nFM, h.nSY, h.nSM, h.nYM⟩
theorem codeOf_nil {aF aS aY aM : Addr} (w : World) (h : Sent aF aS aY aM w) :
    Calls Tryd.prog 31 #[.nilIface] w fun e w' => e = .returned (.int .i64 0) ∧ Below w.heap.size w w' := by
  have cF := h.cF
  have cS := h.cS
  have cY := h.cY
  have cM := h.cM
  obtain ⟨kF, tF, bF⟩ := h.bF
  obtain ⟨kS, tS, bS⟩ := h.bS
  obtain ⟨kY, tY, bY⟩ := h.bY
  obtain ⟨kM, tM, bM⟩ := h.bM
  clear h
  go_enter Tryd.func31, Tryd.ntmps31
  go_wp2_with fail
  refine (is_nil aF _).mono ?_
  rintro _ w1 ⟨rfl, rfl⟩
  go_wp2_with fail
  refine (is_nil aS _).mono ?_
  rintro _ w1 ⟨rfl, rfl⟩
  go_wp2_with fail
  refine (is_nil aY _).mono ?_
  rintro _ w1 ⟨rfl, rfl⟩
  go_wp2_with fail
  refine (is_nil aM _).mono ?_
  rintro _ w1 ⟨rfl, rfl⟩
  go_wp2_with fail
  go_ret
  exact ⟨rfl, Below.refl _ _⟩
theorem codeOf_errForm {aF aS aY aM : Addr} (w : World) (h : Sent aF aS aY aM w) :
    Calls Tryd.prog 31 #[.iface 128 (.pointer (some aF))] w fun e w' => e = .returned (.int .i64 1) ∧ Below w.heap.size w w' := by
  have cF := h.cF
  have cS := h.cS
  have cY := h.cY
  have cM := h.cM
  obtain ⟨kF, tF, bF⟩ := h.bF
  obtain ⟨kS, tS, bS⟩ := h.bS
  obtain ⟨kY, tY, bY⟩ := h.bY
  obtain ⟨kM, tM, bM⟩ := h.bM
  clear h
  go_enter Tryd.func31, Tryd.ntmps31
  go_wp2_with fail
  refine (is_same aF _).mono ?_
  rintro _ w1 ⟨rfl, rfl⟩
  go_wp2_with fail
  go_ret
  exact ⟨rfl, Below.refl _ _⟩
theorem codeOf_errShort {aF aS aY aM : Addr} (w : World) (h : Sent aF aS aY aM w) :
    Calls Tryd.prog 31 #[.iface 128 (.pointer (some aS))] w fun e w' => e = .returned (.int .i64 4) ∧ Below w.heap.size w w' := by
  have cF := h.cF
  have cS := h.cS
  have cY := h.cY
  have cM := h.cM
  obtain ⟨kF, tF, bF⟩ := h.bF
  obtain ⟨kS, tS, bS⟩ := h.bS
  obtain ⟨kY, tY, bY⟩ := h.bY
  obtain ⟨kM, tM, bM⟩ := h.bM
  have NF := hidS (h.nFS.symm)
  clear h
  go_enter Tryd.func31, Tryd.ntmps31
  go_wp2_with fail
  refine (is_other aS aF kS kF tS tF _ NF.out bS bF).mono ?_
  rintro _ w1 ⟨rfl, rfl⟩
  go_wp2_with fail
  refine (is_same aS _).mono ?_
  rintro _ w1 ⟨rfl, rfl⟩
  go_wp2_with fail
  go_ret
  exact ⟨rfl, Below.refl _ _⟩
theorem codeOf_errSyntax {aF aS aY aM : Addr} (w : World) (h : Sent aF aS aY aM w) :
    Calls Tryd.prog 31 #[.iface 128 (.pointer (some aY))] w fun e w' => e = .returned (.int .i64 3) ∧ Below w.heap.size w w' := by
  have cF := h.cF
  have cS := h.cS
  have cY := h.cY
  have cM := h.cM
  obtain ⟨kF, tF, bF⟩ := h.bF
  obtain ⟨kS, tS, bS⟩ := h.bS
  obtain ⟨kY, tY, bY⟩ := h.bY
  obtain ⟨kM, tM, bM⟩ := h.bM
  have NF := hidS (h.nFY.symm)
  have NS := hidS (h.nSY.symm)
  clear h
  go_enter Tryd.func31, Tryd.ntmps31
  go_wp2_with fail
  refine (is_other aY aF kY kF tY tF _ NF.out bY bF).mono ?_
  rintro _ w1 ⟨rfl, rfl⟩
  go_wp2_with fail
  refine (is_other aY aS kY kS tY tS _ NS.out bY bS).mono ?_
  rintro _ w1 ⟨rfl, rfl⟩
  go_wp2_with fail
  refine (is_same aY _).mono ?_
  rintro _ w1 ⟨rfl, rfl⟩
  go_wp2_with fail
  go_ret
  exact ⟨rfl, Below.refl _ _⟩
theorem codeOf_errSum {aF aS aY aM : Addr} (w : World) (h : Sent aF aS aY aM w) :
    Calls Tryd.prog 31 #[.iface 128 (.pointer (some aM))] w fun e w' => e = .returned (.int .i64 5) ∧ Below w.heap.size w w' := by
  have cF := h.cF
  have cS := h.cS
  have cY := h.cY
  have cM := h.cM
  obtain ⟨kF, tF, bF⟩ := h.bF
  obtain ⟨kS, tS, bS⟩ := h.bS
  obtain ⟨kY, tY, bY⟩ := h.bY
  obtain ⟨kM, tM, bM⟩ := h.bM
  have NF := hidS (h.nFM.symm)
  have NS := hidS (h.nSM.symm)
  have NY := hidS (h.nYM.symm)
  clear h
  go_enter Tryd.func31, Tryd.ntmps31
  go_wp2_with fail
  refine (is_other aM aF kM kF tM tF _ NF.out bM bF).mono ?_
  rintro _ w1 ⟨rfl, rfl⟩
  go_wp2_with fail
  refine (is_other aM aS kM kS tM tS _ NS.out bM bS).mono ?_
  rintro _ w1 ⟨rfl, rfl⟩
  go_wp2_with fail
  refine (is_other aM aY kM kY tM tY _ NY.out bM bY).mono ?_
  rintro _ w1 ⟨rfl, rfl⟩
  go_wp2_with fail
  refine (is_same aM _).mono ?_
  rintro _ w1 ⟨rfl, rfl⟩
  go_wp2_with fail
  go_ret
  exact ⟨rfl, Below.refl _ _⟩
end Go.Proofs.YthfhbmiddillbafDoor
end

section
namespace Go.Proofs.YthfhbmiddillbafDoor
open Go.ChangeShapes Go.WideShapes Go.ChangeAt Go.RowKit
set_option linter.unusedVariables false

/-- the place of the check behind the head -/
def placeN (proto : Int) : Nat := if proto = 6 then 36 else if proto = 17 then 26 else 22
theorem l03Place_any (n : Int) (w : World) :
    Calls Tryd.prog 30 #[.int .i64 n] w fun e w' => e = .returned (.int .i64 (placeN n : Nat)) ∧ w' = w := by
  by_cases h6 : n = 6
  · subst h6
    go_enter Tryd.func30, Tryd.ntmps30
    go_wp2
    go_ret
    exact ⟨rfl, rfl⟩
  by_cases h17 : n = 17
  · subst h17
    go_enter Tryd.func30, Tryd.ntmps30
    go_wp2
    go_ret
    exact ⟨rfl, rfl⟩
  · have e : Hid (placeN n = 22) := by unfold placeN; rw [if_neg h6, if_neg h17]; rfl
    have h6' : (n == 6) = false := beq_eq_false_iff_ne.2 h6
    have h17' : (n == 17) = false := beq_eq_false_iff_ne.2 h17
    clear h6 h17
    go_enter Tryd.func30, Tryd.ntmps30
    go_wp2
    go_ret
    exact ⟨by rw [e.out]; rfl, rfl⟩

/-- a packet's text without both checks -/
def blankT (s : ByteArray) (k : Nat) : ByteArray := s.extract 0 10 ++ s.extract 12 k ++ s.extract (k + 2) s.size
theorem l03Blank_any (s : ByteArray) (n : Int) (w : World) (hk : placeN n + 2 ≤ s.size) (hs : s.size ≤ 8000) :
    Calls Tryd.prog 13 #[.string s, .int .i64 n] w fun e w' => e = .returned (.string (blankT s (placeN n))) ∧ Below w.heap.size w w' := by
  have hs' : (s.size : Int) ≤ 8000 := by omega
  have e1 : (s.extract 0 10).size ≤ 8000 := by simp; omega
  rcases (by unfold placeN; split; simp; split <;> simp : placeN n = 36 ∨ placeN n = 26 ∨ placeN n = 22) with hp | hp | hp
  all_goals
    have HE := hidS hp
    have hP := hidS (fun W => l03Place_any n W)
    rw [hp] at hk hP
    have hk' : (24 : Int) ≤ (s.size : Int) := by omega
    have hk1 : 10 ≤ s.size := by omega
    have hk2 := hk
    clear hp
    go_enter Tryd.func13, Tryd.ntmps13
    go_wp2_with fail
    refine (hP.out _).mono ?_
    rintro _ w1 ⟨rfl, rfl⟩
    clear hP
    go_wp2_with fail
    go_region
    go_wp2
    go_ret
    exact ⟨by rw [HE.out]; rfl, (Below.refl _ _).drew⟩
end Go.Proofs.YthfhbmiddillbafDoor
end
