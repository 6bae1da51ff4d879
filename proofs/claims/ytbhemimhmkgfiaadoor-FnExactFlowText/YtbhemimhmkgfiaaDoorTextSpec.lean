/- Proved here: spec.TupleText answers a tuple's text (else the empty text); all old memory stays (no conditions). -/
import Derived.Test.YtbhemimhmkgfiaaDoorTextMath
import Derived.Test.YtbhemimhmkgfiaaDoorTRightSpec
import Derived.Test.YtbhemimhmkgfiaaDoorBlk
import Derived.Deep.Cut
namespace Go.Proofs.YtbhemimhmkgfiaaDoor
open Go.ChangeShapes Go.WideShapes Go.ChangeAt Go.RowKit
set_option linter.unusedVariables false
set_option maxRecDepth 100000
set_option linter.unusedSimpArgs false

set_option maxHeartbeats 4000000 in
theorem l04Text_tcp (t : Tp) (w : World) (hr : rightT t = true) (h17 : t.proto ≠ 17) (h1 : t.proto ≠ 1) :
    Calls Tryd.prog 26 #[.agg #[.int .i64 t.proto, .int .i64 t.src, .int .i64 t.sport, .int .i64 t.dst, .int .i64 t.dport, .int .i64 t.kind]] w fun e w' => e = .returned (.string (tupT t)) ∧ Below w.heap.size w w' := by
  obtain ⟨⟨p1, p2⟩, q1, q2⟩ := right_ports hr
  have HA1 := hidS (fun W => specAddrText_any t.src W)
  have HA2 := hidS (fun W => specAddrText_any t.dst W)
  have HD1 := hidS (fun W => l01Dec_of (x := t.sport) t.sport.toNat W (by omega) (by omega))
  have HD2 := hidS (fun W => l01Dec_of (x := t.dport) t.dport.toNat W (by omega) (by omega))
  have z1 := addrAns_size t.src
  have z2 := addrAns_size t.dst
  have z3 := decT_size t.sport.toNat
  have z4 := decT_size t.dport.toNat
  clear p1 p2 q1 q2 hr
  have eN : nameS t = ⟨#[116, 99, 112, 32]⟩ := by unfold nameS; rw [if_neg h17, if_neg h1]
  have eM : markL t = ⟨#[]⟩ := by unfold markL; rw [if_neg h1]
  unfold tupT
  rw [eN, eM]
  clear eN eM
  have h17' : (t.proto == 17) = false := beq_eq_false_iff_ne.2 h17
  have h1' : (t.proto == 1) = false := beq_eq_false_iff_ne.2 h1
  clear h17 h1
  have hGP0 : Hid ((w.alloc (.cells #[.int .i64 t.proto, .int .i64 t.src, .int .i64 t.sport, .int .i64 t.dst, .int .i64 t.dport, .int .i64 t.kind] 33)).heap[w.heap.size]? = some (.cells #[.int .i64 t.proto, .int .i64 t.src, .int .i64 t.sport, .int .i64 t.dst, .int .i64 t.dport, .int .i64 t.kind] 33)) := by
    show _ = _
    have := heap_newG w (.cells #[.int .i64 t.proto, .int .i64 t.src, .int .i64 t.sport, .int .i64 t.dst, .int .i64 t.dport, .int .i64 t.kind] 33)
    simpa using this
  have hL0 := hidS ((Below.refl w.heap.size w).alloc (Nat.le_refl _) (.cells #[.int .i64 t.proto, .int .i64 t.src, .int .i64 t.sport, .int .i64 t.dst, .int .i64 t.dport, .int .i64 t.kind] 33))
  go_enter Tryd.func26, Tryd.ntmps26
  go_wp2_with fail
  generalize (w.alloc (.cells #[.int .i64 t.proto, .int .i64 t.src, .int .i64 t.sport, .int .i64 t.dst, .int .i64 t.dport, .int .i64 t.kind] 33)) = w0 at hGP0 hL0 ⊢
  refine grow_kinds 23 [.is (.string ⟨#[116, 99, 112, 32]⟩), .is (.pointer (some ⟨w.heap.size, 1, none⟩)), .is (.int .i64 t.src), .is (.string (addrAns t.src)), .is (.string (⟨#[116, 99, 112, 32]⟩ ++ (addrAns t.src))), .is (.string (⟨#[116, 99, 112, 32]⟩ ++ (addrAns t.src) ++ ⟨#[58]⟩)), .is (.pointer (some ⟨w.heap.size, 2, none⟩)), .is (.int .i64 t.sport), .is (.string (decT t.sport.toNat)), .is (.string (⟨#[116, 99, 112, 32]⟩ ++ (addrAns t.src) ++ ⟨#[58]⟩ ++ (decT t.sport.toNat))), .is (.string (⟨#[116, 99, 112, 32]⟩ ++ (addrAns t.src) ++ ⟨#[58]⟩ ++ (decT t.sport.toNat) ++ ⟨#[62]⟩)), .is (.pointer (some ⟨w.heap.size, 3, none⟩)), .is (.int .i64 t.dst), .is (.string (addrAns t.dst)), .is (.string (⟨#[116, 99, 112, 32]⟩ ++ (addrAns t.src) ++ ⟨#[58]⟩ ++ (decT t.sport.toNat) ++ ⟨#[62]⟩ ++ (addrAns t.dst))), .is (.string (⟨#[116, 99, 112, 32]⟩ ++ (addrAns t.src) ++ ⟨#[58]⟩ ++ (decT t.sport.toNat) ++ ⟨#[62]⟩ ++ (addrAns t.dst) ++ ⟨#[58]⟩)), .is (.pointer (some ⟨w.heap.size, 4, none⟩)), .is (.int .i64 t.dport), .is (.string (decT t.dport.toNat)), .is (.string (⟨#[116, 99, 112, 32]⟩ ++ (addrAns t.src) ++ ⟨#[58]⟩ ++ (decT t.sport.toNat) ++ ⟨#[62]⟩ ++ (addrAns t.dst) ++ ⟨#[58]⟩ ++ (decT t.dport.toNat))), .is (.string ⟨#[]⟩), .is (.string (⟨#[116, 99, 112, 32]⟩ ++ (addrAns t.src) ++ ⟨#[58]⟩ ++ (decT t.sport.toNat) ++ ⟨#[62]⟩ ++ (addrAns t.dst) ++ ⟨#[58]⟩ ++ (decT t.dport.toNat) ++ ⟨#[]⟩)), .is (.string (⟨#[116, 99, 112, 32]⟩ ++ (addrAns t.src) ++ ⟨#[58]⟩ ++ (decT t.sport.toNat) ++ ⟨#[62]⟩ ++ (addrAns t.dst) ++ ⟨#[58]⟩ ++ (decT t.dport.toNat) ++ ⟨#[]⟩))] rfl (by kernel_rfl) (by kernel_rfl) ?stepsV ?finV
  case stepsV =>
    refine ⟨?_, ?_, ?_, ?_, ?_, ?_, ?_, ?_, ?_, ?_, ?_, ?_, ?_, ?_, ?_, ?_, ?_, ?_, ?_, ?_, ?_, ?_, ?_, trivial⟩
    · refine ⟨rfl, fun v W ρ hC kc kf ks ki kd => ?_⟩
      have t3 : ρ (.tmp 3) = .string ⟨#[116, 99, 112, 32]⟩ := ki 3 (by decide)
      simp [execOp, go_sem, t3]
      exact ⟨hC, Below.refl _ _, rfl⟩
    · refine ⟨rfl, fun v W ρ hC kc kf ks ki kd => ?_⟩
      have t1 : ρ (.tmp 1) = .pointer (some ⟨w.heap.size, 0, none⟩) := ki 1 (by decide)
      simp [execOp, go_sem, t1]
      exact ⟨hC, Below.refl _ _, rfl⟩
    · refine ⟨rfl, fun v W ρ hC kc kf ks ki kd => ?_⟩
      have d1 : v 1 = .pointer (some ⟨w.heap.size, 1, none⟩) := kd _ (Array.mem_of_getElem? (i := 0) rfl) rfl
      have t15 : ρ (.tmp 15) = v 1 := ks 1 15 (by decide) rfl
      rw [d1] at t15
      have c0 := blk_cell (blk_later hGP0.out hC) 1
      simp at c0
      simp [execOp, go_sem, t15, c0]
      exact ⟨hC, Below.refl _ _, rfl⟩
    · refine ⟨rfl, fun v W ρ hC kc kf ks ki kd => ?_⟩
      have d2 : v 2 = .int .i64 t.src := kd _ (Array.mem_of_getElem? (i := 0) rfl) rfl
      have t16 : ρ (.tmp 16) = v 2 := ks 2 16 (by decide) rfl
      rw [d2] at t16
      simp [execOp, go_sem, t16, kf]
      exact Calls.mono (HA1.out _) (fun e x h => ⟨_, h.1, hC.trans (h.2.mono hC.size), h.2, rfl⟩)
    · refine ⟨rfl, fun v W ρ hC kc kf ks ki kd => ?_⟩
      have d0 : v 0 = .string ⟨#[116, 99, 112, 32]⟩ := kd _ (Array.mem_of_getElem? (i := 0) rfl) rfl
      have t14 : ρ (.tmp 14) = v 0 := ks 0 14 (by decide) rfl
      rw [d0] at t14
      have d3 : v 3 = .string (addrAns t.src) := kd _ (Array.mem_of_getElem? (i := 1) rfl) rfl
      have t17 : ρ (.tmp 17) = v 3 := ks 3 17 (by decide) rfl
      rw [d3] at t17
      simp [execOp, go_sem, t14, t17, kc]
      first | exact ⟨hC, Below.refl _ _, rfl⟩ | (rw [if_neg (by omega)]; exact ⟨hC, Below.refl _ _, rfl⟩)
    · refine ⟨rfl, fun v W ρ hC kc kf ks ki kd => ?_⟩
      have d4 : v 4 = .string (⟨#[116, 99, 112, 32]⟩ ++ (addrAns t.src)) := kd _ (Array.mem_of_getElem? (i := 0) rfl) rfl
      have t18 : ρ (.tmp 18) = v 4 := ks 4 18 (by decide) rfl
      rw [d4] at t18
      simp [execOp, go_sem, t18, kc]
      first | exact ⟨hC, Below.refl _ _, rfl⟩ | (rw [if_neg (by omega)]; exact ⟨hC, Below.refl _ _, rfl⟩)
    · refine ⟨rfl, fun v W ρ hC kc kf ks ki kd => ?_⟩
      have t1 : ρ (.tmp 1) = .pointer (some ⟨w.heap.size, 0, none⟩) := ki 1 (by decide)
      simp [execOp, go_sem, t1]
      exact ⟨hC, Below.refl _ _, rfl⟩
    · refine ⟨rfl, fun v W ρ hC kc kf ks ki kd => ?_⟩
      have d6 : v 6 = .pointer (some ⟨w.heap.size, 2, none⟩) := kd _ (Array.mem_of_getElem? (i := 0) rfl) rfl
      have t20 : ρ (.tmp 20) = v 6 := ks 6 20 (by decide) rfl
      rw [d6] at t20
      have c0 := blk_cell (blk_later hGP0.out hC) 2
      simp at c0
      simp [execOp, go_sem, t20, c0]
      exact ⟨hC, Below.refl _ _, rfl⟩
    · refine ⟨rfl, fun v W ρ hC kc kf ks ki kd => ?_⟩
      have d7 : v 7 = .int .i64 t.sport := kd _ (Array.mem_of_getElem? (i := 0) rfl) rfl
      have t21 : ρ (.tmp 21) = v 7 := ks 7 21 (by decide) rfl
      rw [d7] at t21
      simp [execOp, go_sem, t21, kf]
      exact Calls.mono (HD1.out _) (fun e x h => ⟨_, h.1, hC.trans (h.2.mono hC.size), h.2, rfl⟩)
    · refine ⟨rfl, fun v W ρ hC kc kf ks ki kd => ?_⟩
      have d5 : v 5 = .string (⟨#[116, 99, 112, 32]⟩ ++ (addrAns t.src) ++ ⟨#[58]⟩) := kd _ (Array.mem_of_getElem? (i := 0) rfl) rfl
      have t19 : ρ (.tmp 19) = v 5 := ks 5 19 (by decide) rfl
      rw [d5] at t19
      have d8 : v 8 = .string (decT t.sport.toNat) := kd _ (Array.mem_of_getElem? (i := 1) rfl) rfl
      have t22 : ρ (.tmp 22) = v 8 := ks 8 22 (by decide) rfl
      rw [d8] at t22
      simp [execOp, go_sem, t19, t22, kc]
      first | exact ⟨hC, Below.refl _ _, rfl⟩ | (rw [if_neg (by omega)]; exact ⟨hC, Below.refl _ _, rfl⟩)
    · refine ⟨rfl, fun v W ρ hC kc kf ks ki kd => ?_⟩
      have d9 : v 9 = .string (⟨#[116, 99, 112, 32]⟩ ++ (addrAns t.src) ++ ⟨#[58]⟩ ++ (decT t.sport.toNat)) := kd _ (Array.mem_of_getElem? (i := 0) rfl) rfl
      have t23 : ρ (.tmp 23) = v 9 := ks 9 23 (by decide) rfl
      rw [d9] at t23
      simp [execOp, go_sem, t23, kc]
      first | exact ⟨hC, Below.refl _ _, rfl⟩ | (rw [if_neg (by omega)]; exact ⟨hC, Below.refl _ _, rfl⟩)
    · refine ⟨rfl, fun v W ρ hC kc kf ks ki kd => ?_⟩
      have t1 : ρ (.tmp 1) = .pointer (some ⟨w.heap.size, 0, none⟩) := ki 1 (by decide)
      simp [execOp, go_sem, t1]
      exact ⟨hC, Below.refl _ _, rfl⟩
    · refine ⟨rfl, fun v W ρ hC kc kf ks ki kd => ?_⟩
      have d11 : v 11 = .pointer (some ⟨w.heap.size, 3, none⟩) := kd _ (Array.mem_of_getElem? (i := 0) rfl) rfl
      have t25 : ρ (.tmp 25) = v 11 := ks 11 25 (by decide) rfl
      rw [d11] at t25
      have c0 := blk_cell (blk_later hGP0.out hC) 3
      simp at c0
      simp [execOp, go_sem, t25, c0]
      exact ⟨hC, Below.refl _ _, rfl⟩
    · refine ⟨rfl, fun v W ρ hC kc kf ks ki kd => ?_⟩
      have d12 : v 12 = .int .i64 t.dst := kd _ (Array.mem_of_getElem? (i := 0) rfl) rfl
      have t26 : ρ (.tmp 26) = v 12 := ks 12 26 (by decide) rfl
      rw [d12] at t26
      simp [execOp, go_sem, t26, kf]
      exact Calls.mono (HA2.out _) (fun e x h => ⟨_, h.1, hC.trans (h.2.mono hC.size), h.2, rfl⟩)
    · refine ⟨rfl, fun v W ρ hC kc kf ks ki kd => ?_⟩
      have d10 : v 10 = .string (⟨#[116, 99, 112, 32]⟩ ++ (addrAns t.src) ++ ⟨#[58]⟩ ++ (decT t.sport.toNat) ++ ⟨#[62]⟩) := kd _ (Array.mem_of_getElem? (i := 0) rfl) rfl
      have t24 : ρ (.tmp 24) = v 10 := ks 10 24 (by decide) rfl
      rw [d10] at t24
      have d13 : v 13 = .string (addrAns t.dst) := kd _ (Array.mem_of_getElem? (i := 1) rfl) rfl
      have t27 : ρ (.tmp 27) = v 13 := ks 13 27 (by decide) rfl
      rw [d13] at t27
      simp [execOp, go_sem, t24, t27, kc]
      first | exact ⟨hC, Below.refl _ _, rfl⟩ | (rw [if_neg (by omega)]; exact ⟨hC, Below.refl _ _, rfl⟩)
    · refine ⟨rfl, fun v W ρ hC kc kf ks ki kd => ?_⟩
      have d14 : v 14 = .string (⟨#[116, 99, 112, 32]⟩ ++ (addrAns t.src) ++ ⟨#[58]⟩ ++ (decT t.sport.toNat) ++ ⟨#[62]⟩ ++ (addrAns t.dst)) := kd _ (Array.mem_of_getElem? (i := 0) rfl) rfl
      have t28 : ρ (.tmp 28) = v 14 := ks 14 28 (by decide) rfl
      rw [d14] at t28
      simp [execOp, go_sem, t28, kc]
      first | exact ⟨hC, Below.refl _ _, rfl⟩ | (rw [if_neg (by omega)]; exact ⟨hC, Below.refl _ _, rfl⟩)
    · refine ⟨rfl, fun v W ρ hC kc kf ks ki kd => ?_⟩
      have t1 : ρ (.tmp 1) = .pointer (some ⟨w.heap.size, 0, none⟩) := ki 1 (by decide)
      simp [execOp, go_sem, t1]
      exact ⟨hC, Below.refl _ _, rfl⟩
    · refine ⟨rfl, fun v W ρ hC kc kf ks ki kd => ?_⟩
      have d16 : v 16 = .pointer (some ⟨w.heap.size, 4, none⟩) := kd _ (Array.mem_of_getElem? (i := 0) rfl) rfl
      have t30 : ρ (.tmp 30) = v 16 := ks 16 30 (by decide) rfl
      rw [d16] at t30
      have c0 := blk_cell (blk_later hGP0.out hC) 4
      simp at c0
      simp [execOp, go_sem, t30, c0]
      exact ⟨hC, Below.refl _ _, rfl⟩
    · refine ⟨rfl, fun v W ρ hC kc kf ks ki kd => ?_⟩
      have d17 : v 17 = .int .i64 t.dport := kd _ (Array.mem_of_getElem? (i := 0) rfl) rfl
      have t31 : ρ (.tmp 31) = v 17 := ks 17 31 (by decide) rfl
      rw [d17] at t31
      simp [execOp, go_sem, t31, kf]
      exact Calls.mono (HD2.out _) (fun e x h => ⟨_, h.1, hC.trans (h.2.mono hC.size), h.2, rfl⟩)
    · refine ⟨rfl, fun v W ρ hC kc kf ks ki kd => ?_⟩
      have d15 : v 15 = .string (⟨#[116, 99, 112, 32]⟩ ++ (addrAns t.src) ++ ⟨#[58]⟩ ++ (decT t.sport.toNat) ++ ⟨#[62]⟩ ++ (addrAns t.dst) ++ ⟨#[58]⟩) := kd _ (Array.mem_of_getElem? (i := 0) rfl) rfl
      have t29 : ρ (.tmp 29) = v 15 := ks 15 29 (by decide) rfl
      rw [d15] at t29
      have d18 : v 18 = .string (decT t.dport.toNat) := kd _ (Array.mem_of_getElem? (i := 1) rfl) rfl
      have t32 : ρ (.tmp 32) = v 18 := ks 18 32 (by decide) rfl
      rw [d18] at t32
      simp [execOp, go_sem, t29, t32, kc]
      first | exact ⟨hC, Below.refl _ _, rfl⟩ | (rw [if_neg (by omega)]; exact ⟨hC, Below.refl _ _, rfl⟩)
    · refine ⟨rfl, fun v W ρ hC kc kf ks ki kd => ?_⟩
      have t4 : ρ (.tmp 4) = .string ⟨#[]⟩ := ki 4 (by decide)
      simp [execOp, go_sem, t4]
      exact ⟨hC, Below.refl _ _, rfl⟩
    · refine ⟨rfl, fun v W ρ hC kc kf ks ki kd => ?_⟩
      have d19 : v 19 = .string (⟨#[116, 99, 112, 32]⟩ ++ (addrAns t.src) ++ ⟨#[58]⟩ ++ (decT t.sport.toNat) ++ ⟨#[62]⟩ ++ (addrAns t.dst) ++ ⟨#[58]⟩ ++ (decT t.dport.toNat)) := kd _ (Array.mem_of_getElem? (i := 0) rfl) rfl
      have t33 : ρ (.tmp 33) = v 19 := ks 19 33 (by decide) rfl
      rw [d19] at t33
      have d20 : v 20 = .string ⟨#[]⟩ := kd _ (Array.mem_of_getElem? (i := 1) rfl) rfl
      have t34 : ρ (.tmp 34) = v 20 := ks 20 34 (by decide) rfl
      rw [d20] at t34
      simp [execOp, go_sem, t33, t34, kc]
      first | exact ⟨hC, Below.refl _ _, rfl⟩ | (rw [if_neg (by omega)]; exact ⟨hC, Below.refl _ _, rfl⟩)
    · refine ⟨rfl, fun v W ρ hC kc kf ks ki kd => ?_⟩
      have d21 : v 21 = .string (⟨#[116, 99, 112, 32]⟩ ++ (addrAns t.src) ++ ⟨#[58]⟩ ++ (decT t.sport.toNat) ++ ⟨#[62]⟩ ++ (addrAns t.dst) ++ ⟨#[58]⟩ ++ (decT t.dport.toNat) ++ ⟨#[]⟩) := kd _ (Array.mem_of_getElem? (i := 0) rfl) rfl
      have t35 : ρ (.tmp 35) = v 21 := ks 21 35 (by decide) rfl
      rw [d21] at t35
      simp [execOp, go_sem, t35]
      exact ⟨hC, Below.refl _ _, rfl⟩
  intro vV w1 hb1 hall
  have hvV : vV 22 = .string (⟨#[116, 99, 112, 32]⟩ ++ (addrAns t.src) ++ ⟨#[58]⟩ ++ (decT t.sport.toNat) ++ ⟨#[62]⟩ ++ (addrAns t.dst) ++ ⟨#[58]⟩ ++ (decT t.dport.toNat) ++ ⟨#[]⟩) := hall 22 (by decide)
  simp [upto, Act.put]
  rw [hvV]
  clear hall hvV
  have hGP1 := hidS (blk_later hGP0.out hb1)
  have hL1 := hidS (hL0.out.trans (hb1.mono hL0.out.size))
  clear hb1 hL0 hGP0
  go_wp2_with fail
  go_ret
  exact ⟨rfl, hL1.out⟩

set_option maxHeartbeats 4000000 in
theorem l04Text_udp (t : Tp) (w : World) (hr : rightT t = true) (h17 : t.proto = 17) :
    Calls Tryd.prog 26 #[.agg #[.int .i64 t.proto, .int .i64 t.src, .int .i64 t.sport, .int .i64 t.dst, .int .i64 t.dport, .int .i64 t.kind]] w fun e w' => e = .returned (.string (tupT t)) ∧ Below w.heap.size w w' := by
  obtain ⟨⟨p1, p2⟩, q1, q2⟩ := right_ports hr
  have HA1 := hidS (fun W => specAddrText_any t.src W)
  have HA2 := hidS (fun W => specAddrText_any t.dst W)
  have HD1 := hidS (fun W => l01Dec_of (x := t.sport) t.sport.toNat W (by omega) (by omega))
  have HD2 := hidS (fun W => l01Dec_of (x := t.dport) t.dport.toNat W (by omega) (by omega))
  have z1 := addrAns_size t.src
  have z2 := addrAns_size t.dst
  have z3 := decT_size t.sport.toNat
  have z4 := decT_size t.dport.toNat
  clear p1 p2 q1 q2 hr
  have eN : nameS t = ⟨#[117, 100, 112, 32]⟩ := by unfold nameS; rw [if_pos h17]
  have eM : markL t = ⟨#[]⟩ := by unfold markL; rw [if_neg (by omega)]
  unfold tupT
  rw [eN, eM]
  clear eN eM
  have h17' : (t.proto == 17) = true := beq_iff_eq.2 h17
  clear h17
  have hGP0 : Hid ((w.alloc (.cells #[.int .i64 t.proto, .int .i64 t.src, .int .i64 t.sport, .int .i64 t.dst, .int .i64 t.dport, .int .i64 t.kind] 33)).heap[w.heap.size]? = some (.cells #[.int .i64 t.proto, .int .i64 t.src, .int .i64 t.sport, .int .i64 t.dst, .int .i64 t.dport, .int .i64 t.kind] 33)) := by
    show _ = _
    have := heap_newG w (.cells #[.int .i64 t.proto, .int .i64 t.src, .int .i64 t.sport, .int .i64 t.dst, .int .i64 t.dport, .int .i64 t.kind] 33)
    simpa using this
  have hL0 := hidS ((Below.refl w.heap.size w).alloc (Nat.le_refl _) (.cells #[.int .i64 t.proto, .int .i64 t.src, .int .i64 t.sport, .int .i64 t.dst, .int .i64 t.dport, .int .i64 t.kind] 33))
  go_enter Tryd.func26, Tryd.ntmps26
  go_wp2_with fail
  generalize (w.alloc (.cells #[.int .i64 t.proto, .int .i64 t.src, .int .i64 t.sport, .int .i64 t.dst, .int .i64 t.dport, .int .i64 t.kind] 33)) = w0 at hGP0 hL0 ⊢
  refine grow_kinds 23 [.is (.string ⟨#[117, 100, 112, 32]⟩), .is (.pointer (some ⟨w.heap.size, 1, none⟩)), .is (.int .i64 t.src), .is (.string (addrAns t.src)), .is (.string (⟨#[117, 100, 112, 32]⟩ ++ (addrAns t.src))), .is (.string (⟨#[117, 100, 112, 32]⟩ ++ (addrAns t.src) ++ ⟨#[58]⟩)), .is (.pointer (some ⟨w.heap.size, 2, none⟩)), .is (.int .i64 t.sport), .is (.string (decT t.sport.toNat)), .is (.string (⟨#[117, 100, 112, 32]⟩ ++ (addrAns t.src) ++ ⟨#[58]⟩ ++ (decT t.sport.toNat))), .is (.string (⟨#[117, 100, 112, 32]⟩ ++ (addrAns t.src) ++ ⟨#[58]⟩ ++ (decT t.sport.toNat) ++ ⟨#[62]⟩)), .is (.pointer (some ⟨w.heap.size, 3, none⟩)), .is (.int .i64 t.dst), .is (.string (addrAns t.dst)), .is (.string (⟨#[117, 100, 112, 32]⟩ ++ (addrAns t.src) ++ ⟨#[58]⟩ ++ (decT t.sport.toNat) ++ ⟨#[62]⟩ ++ (addrAns t.dst))), .is (.string (⟨#[117, 100, 112, 32]⟩ ++ (addrAns t.src) ++ ⟨#[58]⟩ ++ (decT t.sport.toNat) ++ ⟨#[62]⟩ ++ (addrAns t.dst) ++ ⟨#[58]⟩)), .is (.pointer (some ⟨w.heap.size, 4, none⟩)), .is (.int .i64 t.dport), .is (.string (decT t.dport.toNat)), .is (.string (⟨#[117, 100, 112, 32]⟩ ++ (addrAns t.src) ++ ⟨#[58]⟩ ++ (decT t.sport.toNat) ++ ⟨#[62]⟩ ++ (addrAns t.dst) ++ ⟨#[58]⟩ ++ (decT t.dport.toNat))), .is (.string ⟨#[]⟩), .is (.string (⟨#[117, 100, 112, 32]⟩ ++ (addrAns t.src) ++ ⟨#[58]⟩ ++ (decT t.sport.toNat) ++ ⟨#[62]⟩ ++ (addrAns t.dst) ++ ⟨#[58]⟩ ++ (decT t.dport.toNat) ++ ⟨#[]⟩)), .is (.string (⟨#[117, 100, 112, 32]⟩ ++ (addrAns t.src) ++ ⟨#[58]⟩ ++ (decT t.sport.toNat) ++ ⟨#[62]⟩ ++ (addrAns t.dst) ++ ⟨#[58]⟩ ++ (decT t.dport.toNat) ++ ⟨#[]⟩))] rfl (by kernel_rfl) (by kernel_rfl) ?stepsV ?finV
  case stepsV =>
    refine ⟨?_, ?_, ?_, ?_, ?_, ?_, ?_, ?_, ?_, ?_, ?_, ?_, ?_, ?_, ?_, ?_, ?_, ?_, ?_, ?_, ?_, ?_, ?_, trivial⟩
    · refine ⟨rfl, fun v W ρ hC kc kf ks ki kd => ?_⟩
      have t3 : ρ (.tmp 3) = .string ⟨#[117, 100, 112, 32]⟩ := ki 3 (by decide)
      simp [execOp, go_sem, t3]
      exact ⟨hC, Below.refl _ _, rfl⟩
    · refine ⟨rfl, fun v W ρ hC kc kf ks ki kd => ?_⟩
      have t1 : ρ (.tmp 1) = .pointer (some ⟨w.heap.size, 0, none⟩) := ki 1 (by decide)
      simp [execOp, go_sem, t1]
      exact ⟨hC, Below.refl _ _, rfl⟩
    · refine ⟨rfl, fun v W ρ hC kc kf ks ki kd => ?_⟩
      have d1 : v 1 = .pointer (some ⟨w.heap.size, 1, none⟩) := kd _ (Array.mem_of_getElem? (i := 0) rfl) rfl
      have t15 : ρ (.tmp 15) = v 1 := ks 1 15 (by decide) rfl
      rw [d1] at t15
      have c0 := blk_cell (blk_later hGP0.out hC) 1
      simp at c0
      simp [execOp, go_sem, t15, c0]
      exact ⟨hC, Below.refl _ _, rfl⟩
    · refine ⟨rfl, fun v W ρ hC kc kf ks ki kd => ?_⟩
      have d2 : v 2 = .int .i64 t.src := kd _ (Array.mem_of_getElem? (i := 0) rfl) rfl
      have t16 : ρ (.tmp 16) = v 2 := ks 2 16 (by decide) rfl
      rw [d2] at t16
      simp [execOp, go_sem, t16, kf]
      exact Calls.mono (HA1.out _) (fun e x h => ⟨_, h.1, hC.trans (h.2.mono hC.size), h.2, rfl⟩)
    · refine ⟨rfl, fun v W ρ hC kc kf ks ki kd => ?_⟩
      have d0 : v 0 = .string ⟨#[117, 100, 112, 32]⟩ := kd _ (Array.mem_of_getElem? (i := 0) rfl) rfl
      have t14 : ρ (.tmp 14) = v 0 := ks 0 14 (by decide) rfl
      rw [d0] at t14
      have d3 : v 3 = .string (addrAns t.src) := kd _ (Array.mem_of_getElem? (i := 1) rfl) rfl
      have t17 : ρ (.tmp 17) = v 3 := ks 3 17 (by decide) rfl
      rw [d3] at t17
      simp [execOp, go_sem, t14, t17, kc]
      first | exact ⟨hC, Below.refl _ _, rfl⟩ | (rw [if_neg (by omega)]; exact ⟨hC, Below.refl _ _, rfl⟩)
    · refine ⟨rfl, fun v W ρ hC kc kf ks ki kd => ?_⟩
      have d4 : v 4 = .string (⟨#[117, 100, 112, 32]⟩ ++ (addrAns t.src)) := kd _ (Array.mem_of_getElem? (i := 0) rfl) rfl
      have t18 : ρ (.tmp 18) = v 4 := ks 4 18 (by decide) rfl
      rw [d4] at t18
      simp [execOp, go_sem, t18, kc]
      first | exact ⟨hC, Below.refl _ _, rfl⟩ | (rw [if_neg (by omega)]; exact ⟨hC, Below.refl _ _, rfl⟩)
    · refine ⟨rfl, fun v W ρ hC kc kf ks ki kd => ?_⟩
      have t1 : ρ (.tmp 1) = .pointer (some ⟨w.heap.size, 0, none⟩) := ki 1 (by decide)
      simp [execOp, go_sem, t1]
      exact ⟨hC, Below.refl _ _, rfl⟩
    · refine ⟨rfl, fun v W ρ hC kc kf ks ki kd => ?_⟩
      have d6 : v 6 = .pointer (some ⟨w.heap.size, 2, none⟩) := kd _ (Array.mem_of_getElem? (i := 0) rfl) rfl
      have t20 : ρ (.tmp 20) = v 6 := ks 6 20 (by decide) rfl
      rw [d6] at t20
      have c0 := blk_cell (blk_later hGP0.out hC) 2
      simp at c0
      simp [execOp, go_sem, t20, c0]
      exact ⟨hC, Below.refl _ _, rfl⟩
    · refine ⟨rfl, fun v W ρ hC kc kf ks ki kd => ?_⟩
      have d7 : v 7 = .int .i64 t.sport := kd _ (Array.mem_of_getElem? (i := 0) rfl) rfl
      have t21 : ρ (.tmp 21) = v 7 := ks 7 21 (by decide) rfl
      rw [d7] at t21
      simp [execOp, go_sem, t21, kf]
      exact Calls.mono (HD1.out _) (fun e x h => ⟨_, h.1, hC.trans (h.2.mono hC.size), h.2, rfl⟩)
    · refine ⟨rfl, fun v W ρ hC kc kf ks ki kd => ?_⟩
      have d5 : v 5 = .string (⟨#[117, 100, 112, 32]⟩ ++ (addrAns t.src) ++ ⟨#[58]⟩) := kd _ (Array.mem_of_getElem? (i := 0) rfl) rfl
      have t19 : ρ (.tmp 19) = v 5 := ks 5 19 (by decide) rfl
      rw [d5] at t19
      have d8 : v 8 = .string (decT t.sport.toNat) := kd _ (Array.mem_of_getElem? (i := 1) rfl) rfl
      have t22 : ρ (.tmp 22) = v 8 := ks 8 22 (by decide) rfl
      rw [d8] at t22
      simp [execOp, go_sem, t19, t22, kc]
      first | exact ⟨hC, Below.refl _ _, rfl⟩ | (rw [if_neg (by omega)]; exact ⟨hC, Below.refl _ _, rfl⟩)
    · refine ⟨rfl, fun v W ρ hC kc kf ks ki kd => ?_⟩
      have d9 : v 9 = .string (⟨#[117, 100, 112, 32]⟩ ++ (addrAns t.src) ++ ⟨#[58]⟩ ++ (decT t.sport.toNat)) := kd _ (Array.mem_of_getElem? (i := 0) rfl) rfl
      have t23 : ρ (.tmp 23) = v 9 := ks 9 23 (by decide) rfl
      rw [d9] at t23
      simp [execOp, go_sem, t23, kc]
      first | exact ⟨hC, Below.refl _ _, rfl⟩ | (rw [if_neg (by omega)]; exact ⟨hC, Below.refl _ _, rfl⟩)
    · refine ⟨rfl, fun v W ρ hC kc kf ks ki kd => ?_⟩
      have t1 : ρ (.tmp 1) = .pointer (some ⟨w.heap.size, 0, none⟩) := ki 1 (by decide)
      simp [execOp, go_sem, t1]
      exact ⟨hC, Below.refl _ _, rfl⟩
    · refine ⟨rfl, fun v W ρ hC kc kf ks ki kd => ?_⟩
      have d11 : v 11 = .pointer (some ⟨w.heap.size, 3, none⟩) := kd _ (Array.mem_of_getElem? (i := 0) rfl) rfl
      have t25 : ρ (.tmp 25) = v 11 := ks 11 25 (by decide) rfl
      rw [d11] at t25
      have c0 := blk_cell (blk_later hGP0.out hC) 3
      simp at c0
      simp [execOp, go_sem, t25, c0]
      exact ⟨hC, Below.refl _ _, rfl⟩
    · refine ⟨rfl, fun v W ρ hC kc kf ks ki kd => ?_⟩
      have d12 : v 12 = .int .i64 t.dst := kd _ (Array.mem_of_getElem? (i := 0) rfl) rfl
      have t26 : ρ (.tmp 26) = v 12 := ks 12 26 (by decide) rfl
      rw [d12] at t26
      simp [execOp, go_sem, t26, kf]
      exact Calls.mono (HA2.out _) (fun e x h => ⟨_, h.1, hC.trans (h.2.mono hC.size), h.2, rfl⟩)
    · refine ⟨rfl, fun v W ρ hC kc kf ks ki kd => ?_⟩
      have d10 : v 10 = .string (⟨#[117, 100, 112, 32]⟩ ++ (addrAns t.src) ++ ⟨#[58]⟩ ++ (decT t.sport.toNat) ++ ⟨#[62]⟩) := kd _ (Array.mem_of_getElem? (i := 0) rfl) rfl
      have t24 : ρ (.tmp 24) = v 10 := ks 10 24 (by decide) rfl
      rw [d10] at t24
      have d13 : v 13 = .string (addrAns t.dst) := kd _ (Array.mem_of_getElem? (i := 1) rfl) rfl
      have t27 : ρ (.tmp 27) = v 13 := ks 13 27 (by decide) rfl
      rw [d13] at t27
      simp [execOp, go_sem, t24, t27, kc]
      first | exact ⟨hC, Below.refl _ _, rfl⟩ | (rw [if_neg (by omega)]; exact ⟨hC, Below.refl _ _, rfl⟩)
    · refine ⟨rfl, fun v W ρ hC kc kf ks ki kd => ?_⟩
      have d14 : v 14 = .string (⟨#[117, 100, 112, 32]⟩ ++ (addrAns t.src) ++ ⟨#[58]⟩ ++ (decT t.sport.toNat) ++ ⟨#[62]⟩ ++ (addrAns t.dst)) := kd _ (Array.mem_of_getElem? (i := 0) rfl) rfl
      have t28 : ρ (.tmp 28) = v 14 := ks 14 28 (by decide) rfl
      rw [d14] at t28
      simp [execOp, go_sem, t28, kc]
      first | exact ⟨hC, Below.refl _ _, rfl⟩ | (rw [if_neg (by omega)]; exact ⟨hC, Below.refl _ _, rfl⟩)
    · refine ⟨rfl, fun v W ρ hC kc kf ks ki kd => ?_⟩
      have t1 : ρ (.tmp 1) = .pointer (some ⟨w.heap.size, 0, none⟩) := ki 1 (by decide)
      simp [execOp, go_sem, t1]
      exact ⟨hC, Below.refl _ _, rfl⟩
    · refine ⟨rfl, fun v W ρ hC kc kf ks ki kd => ?_⟩
      have d16 : v 16 = .pointer (some ⟨w.heap.size, 4, none⟩) := kd _ (Array.mem_of_getElem? (i := 0) rfl) rfl
      have t30 : ρ (.tmp 30) = v 16 := ks 16 30 (by decide) rfl
      rw [d16] at t30
      have c0 := blk_cell (blk_later hGP0.out hC) 4
      simp at c0
      simp [execOp, go_sem, t30, c0]
      exact ⟨hC, Below.refl _ _, rfl⟩
    · refine ⟨rfl, fun v W ρ hC kc kf ks ki kd => ?_⟩
      have d17 : v 17 = .int .i64 t.dport := kd _ (Array.mem_of_getElem? (i := 0) rfl) rfl
      have t31 : ρ (.tmp 31) = v 17 := ks 17 31 (by decide) rfl
      rw [d17] at t31
      simp [execOp, go_sem, t31, kf]
      exact Calls.mono (HD2.out _) (fun e x h => ⟨_, h.1, hC.trans (h.2.mono hC.size), h.2, rfl⟩)
    · refine ⟨rfl, fun v W ρ hC kc kf ks ki kd => ?_⟩
      have d15 : v 15 = .string (⟨#[117, 100, 112, 32]⟩ ++ (addrAns t.src) ++ ⟨#[58]⟩ ++ (decT t.sport.toNat) ++ ⟨#[62]⟩ ++ (addrAns t.dst) ++ ⟨#[58]⟩) := kd _ (Array.mem_of_getElem? (i := 0) rfl) rfl
      have t29 : ρ (.tmp 29) = v 15 := ks 15 29 (by decide) rfl
      rw [d15] at t29
      have d18 : v 18 = .string (decT t.dport.toNat) := kd _ (Array.mem_of_getElem? (i := 1) rfl) rfl
      have t32 : ρ (.tmp 32) = v 18 := ks 18 32 (by decide) rfl
      rw [d18] at t32
      simp [execOp, go_sem, t29, t32, kc]
      first | exact ⟨hC, Below.refl _ _, rfl⟩ | (rw [if_neg (by omega)]; exact ⟨hC, Below.refl _ _, rfl⟩)
    · refine ⟨rfl, fun v W ρ hC kc kf ks ki kd => ?_⟩
      have t4 : ρ (.tmp 4) = .string ⟨#[]⟩ := ki 4 (by decide)
      simp [execOp, go_sem, t4]
      exact ⟨hC, Below.refl _ _, rfl⟩
    · refine ⟨rfl, fun v W ρ hC kc kf ks ki kd => ?_⟩
      have d19 : v 19 = .string (⟨#[117, 100, 112, 32]⟩ ++ (addrAns t.src) ++ ⟨#[58]⟩ ++ (decT t.sport.toNat) ++ ⟨#[62]⟩ ++ (addrAns t.dst) ++ ⟨#[58]⟩ ++ (decT t.dport.toNat)) := kd _ (Array.mem_of_getElem? (i := 0) rfl) rfl
      have t33 : ρ (.tmp 33) = v 19 := ks 19 33 (by decide) rfl
      rw [d19] at t33
      have d20 : v 20 = .string ⟨#[]⟩ := kd _ (Array.mem_of_getElem? (i := 1) rfl) rfl
      have t34 : ρ (.tmp 34) = v 20 := ks 20 34 (by decide) rfl
      rw [d20] at t34
      simp [execOp, go_sem, t33, t34, kc]
      first | exact ⟨hC, Below.refl _ _, rfl⟩ | (rw [if_neg (by omega)]; exact ⟨hC, Below.refl _ _, rfl⟩)
    · refine ⟨rfl, fun v W ρ hC kc kf ks ki kd => ?_⟩
      have d21 : v 21 = .string (⟨#[117, 100, 112, 32]⟩ ++ (addrAns t.src) ++ ⟨#[58]⟩ ++ (decT t.sport.toNat) ++ ⟨#[62]⟩ ++ (addrAns t.dst) ++ ⟨#[58]⟩ ++ (decT t.dport.toNat) ++ ⟨#[]⟩) := kd _ (Array.mem_of_getElem? (i := 0) rfl) rfl
      have t35 : ρ (.tmp 35) = v 21 := ks 21 35 (by decide) rfl
      rw [d21] at t35
      simp [execOp, go_sem, t35]
      exact ⟨hC, Below.refl _ _, rfl⟩
  intro vV w1 hb1 hall
  have hvV : vV 22 = .string (⟨#[117, 100, 112, 32]⟩ ++ (addrAns t.src) ++ ⟨#[58]⟩ ++ (decT t.sport.toNat) ++ ⟨#[62]⟩ ++ (addrAns t.dst) ++ ⟨#[58]⟩ ++ (decT t.dport.toNat) ++ ⟨#[]⟩) := hall 22 (by decide)
  simp [upto, Act.put]
  rw [hvV]
  clear hall hvV
  have hGP1 := hidS (blk_later hGP0.out hb1)
  have hL1 := hidS (hL0.out.trans (hb1.mono hL0.out.size))
  clear hb1 hL0 hGP0
  go_wp2_with fail
  go_ret
  exact ⟨rfl, hL1.out⟩

set_option maxHeartbeats 4000000 in
theorem l04Text_ask (t : Tp) (w : World) (hr : rightT t = true) (h1 : t.proto = 1) (h8 : t.kind = 8) :
    Calls Tryd.prog 26 #[.agg #[.int .i64 t.proto, .int .i64 t.src, .int .i64 t.sport, .int .i64 t.dst, .int .i64 t.dport, .int .i64 t.kind]] w fun e w' => e = .returned (.string (tupT t)) ∧ Below w.heap.size w w' := by
  obtain ⟨⟨p1, p2⟩, q1, q2⟩ := right_ports hr
  have HA1 := hidS (fun W => specAddrText_any t.src W)
  have HA2 := hidS (fun W => specAddrText_any t.dst W)
  have HD1 := hidS (fun W => l01Dec_of (x := t.sport) t.sport.toNat W (by omega) (by omega))
  have HD2 := hidS (fun W => l01Dec_of (x := t.dport) t.dport.toNat W (by omega) (by omega))
  have z1 := addrAns_size t.src
  have z2 := addrAns_size t.dst
  have z3 := decT_size t.sport.toNat
  have z4 := decT_size t.dport.toNat
  clear p1 p2 q1 q2 hr
  have eN : nameS t = ⟨#[112, 105, 110, 103, 32]⟩ := by unfold nameS; rw [if_neg (by omega), if_pos h1]
  have eM : markL t = ⟨#[63]⟩ := by unfold markL; rw [if_pos h1, if_pos h8]
  unfold tupT
  rw [eN, eM]
  clear eN eM
  have h17' : (t.proto == 17) = false := beq_eq_false_iff_ne.2 (by omega)
  have h1' : (t.proto == 1) = true := beq_iff_eq.2 h1
  have h8' : (t.kind == 8) = true := beq_iff_eq.2 h8
  clear h1 h8
  have hGP0 : Hid ((w.alloc (.cells #[.int .i64 t.proto, .int .i64 t.src, .int .i64 t.sport, .int .i64 t.dst, .int .i64 t.dport, .int .i64 t.kind] 33)).heap[w.heap.size]? = some (.cells #[.int .i64 t.proto, .int .i64 t.src, .int .i64 t.sport, .int .i64 t.dst, .int .i64 t.dport, .int .i64 t.kind] 33)) := by
    show _ = _
    have := heap_newG w (.cells #[.int .i64 t.proto, .int .i64 t.src, .int .i64 t.sport, .int .i64 t.dst, .int .i64 t.dport, .int .i64 t.kind] 33)
    simpa using this
  have hL0 := hidS ((Below.refl w.heap.size w).alloc (Nat.le_refl _) (.cells #[.int .i64 t.proto, .int .i64 t.src, .int .i64 t.sport, .int .i64 t.dst, .int .i64 t.dport, .int .i64 t.kind] 33))
  go_enter Tryd.func26, Tryd.ntmps26
  go_wp2_with fail
  generalize (w.alloc (.cells #[.int .i64 t.proto, .int .i64 t.src, .int .i64 t.sport, .int .i64 t.dst, .int .i64 t.dport, .int .i64 t.kind] 33)) = w0 at hGP0 hL0 ⊢
  refine grow_kinds 23 [.is (.string ⟨#[112, 105, 110, 103, 32]⟩), .is (.pointer (some ⟨w.heap.size, 1, none⟩)), .is (.int .i64 t.src), .is (.string (addrAns t.src)), .is (.string (⟨#[112, 105, 110, 103, 32]⟩ ++ (addrAns t.src))), .is (.string (⟨#[112, 105, 110, 103, 32]⟩ ++ (addrAns t.src) ++ ⟨#[58]⟩)), .is (.pointer (some ⟨w.heap.size, 2, none⟩)), .is (.int .i64 t.sport), .is (.string (decT t.sport.toNat)), .is (.string (⟨#[112, 105, 110, 103, 32]⟩ ++ (addrAns t.src) ++ ⟨#[58]⟩ ++ (decT t.sport.toNat))), .is (.string (⟨#[112, 105, 110, 103, 32]⟩ ++ (addrAns t.src) ++ ⟨#[58]⟩ ++ (decT t.sport.toNat) ++ ⟨#[62]⟩)), .is (.pointer (some ⟨w.heap.size, 3, none⟩)), .is (.int .i64 t.dst), .is (.string (addrAns t.dst)), .is (.string (⟨#[112, 105, 110, 103, 32]⟩ ++ (addrAns t.src) ++ ⟨#[58]⟩ ++ (decT t.sport.toNat) ++ ⟨#[62]⟩ ++ (addrAns t.dst))), .is (.string (⟨#[112, 105, 110, 103, 32]⟩ ++ (addrAns t.src) ++ ⟨#[58]⟩ ++ (decT t.sport.toNat) ++ ⟨#[62]⟩ ++ (addrAns t.dst) ++ ⟨#[58]⟩)), .is (.pointer (some ⟨w.heap.size, 4, none⟩)), .is (.int .i64 t.dport), .is (.string (decT t.dport.toNat)), .is (.string (⟨#[112, 105, 110, 103, 32]⟩ ++ (addrAns t.src) ++ ⟨#[58]⟩ ++ (decT t.sport.toNat) ++ ⟨#[62]⟩ ++ (addrAns t.dst) ++ ⟨#[58]⟩ ++ (decT t.dport.toNat))), .is (.string ⟨#[63]⟩), .is (.string (⟨#[112, 105, 110, 103, 32]⟩ ++ (addrAns t.src) ++ ⟨#[58]⟩ ++ (decT t.sport.toNat) ++ ⟨#[62]⟩ ++ (addrAns t.dst) ++ ⟨#[58]⟩ ++ (decT t.dport.toNat) ++ ⟨#[63]⟩)), .is (.string (⟨#[112, 105, 110, 103, 32]⟩ ++ (addrAns t.src) ++ ⟨#[58]⟩ ++ (decT t.sport.toNat) ++ ⟨#[62]⟩ ++ (addrAns t.dst) ++ ⟨#[58]⟩ ++ (decT t.dport.toNat) ++ ⟨#[63]⟩))] rfl (by kernel_rfl) (by kernel_rfl) ?stepsV ?finV
  case stepsV =>
    refine ⟨?_, ?_, ?_, ?_, ?_, ?_, ?_, ?_, ?_, ?_, ?_, ?_, ?_, ?_, ?_, ?_, ?_, ?_, ?_, ?_, ?_, ?_, ?_, trivial⟩
    · refine ⟨rfl, fun v W ρ hC kc kf ks ki kd => ?_⟩
      have t3 : ρ (.tmp 3) = .string ⟨#[112, 105, 110, 103, 32]⟩ := ki 3 (by decide)
      simp [execOp, go_sem, t3]
      exact ⟨hC, Below.refl _ _, rfl⟩
    · refine ⟨rfl, fun v W ρ hC kc kf ks ki kd => ?_⟩
      have t1 : ρ (.tmp 1) = .pointer (some ⟨w.heap.size, 0, none⟩) := ki 1 (by decide)
      simp [execOp, go_sem, t1]
      exact ⟨hC, Below.refl _ _, rfl⟩
    · refine ⟨rfl, fun v W ρ hC kc kf ks ki kd => ?_⟩
      have d1 : v 1 = .pointer (some ⟨w.heap.size, 1, none⟩) := kd _ (Array.mem_of_getElem? (i := 0) rfl) rfl
      have t15 : ρ (.tmp 15) = v 1 := ks 1 15 (by decide) rfl
      rw [d1] at t15
      have c0 := blk_cell (blk_later hGP0.out hC) 1
      simp at c0
      simp [execOp, go_sem, t15, c0]
      exact ⟨hC, Below.refl _ _, rfl⟩
    · refine ⟨rfl, fun v W ρ hC kc kf ks ki kd => ?_⟩
      have d2 : v 2 = .int .i64 t.src := kd _ (Array.mem_of_getElem? (i := 0) rfl) rfl
      have t16 : ρ (.tmp 16) = v 2 := ks 2 16 (by decide) rfl
      rw [d2] at t16
      simp [execOp, go_sem, t16, kf]
      exact Calls.mono (HA1.out _) (fun e x h => ⟨_, h.1, hC.trans (h.2.mono hC.size), h.2, rfl⟩)
    · refine ⟨rfl, fun v W ρ hC kc kf ks ki kd => ?_⟩
      have d0 : v 0 = .string ⟨#[112, 105, 110, 103, 32]⟩ := kd _ (Array.mem_of_getElem? (i := 0) rfl) rfl
      have t14 : ρ (.tmp 14) = v 0 := ks 0 14 (by decide) rfl
      rw [d0] at t14
      have d3 : v 3 = .string (addrAns t.src) := kd _ (Array.mem_of_getElem? (i := 1) rfl) rfl
      have t17 : ρ (.tmp 17) = v 3 := ks 3 17 (by decide) rfl
      rw [d3] at t17
      simp [execOp, go_sem, t14, t17, kc]
      first | exact ⟨hC, Below.refl _ _, rfl⟩ | (rw [if_neg (by omega)]; exact ⟨hC, Below.refl _ _, rfl⟩)
    · refine ⟨rfl, fun v W ρ hC kc kf ks ki kd => ?_⟩
      have d4 : v 4 = .string (⟨#[112, 105, 110, 103, 32]⟩ ++ (addrAns t.src)) := kd _ (Array.mem_of_getElem? (i := 0) rfl) rfl
      have t18 : ρ (.tmp 18) = v 4 := ks 4 18 (by decide) rfl
      rw [d4] at t18
      simp [execOp, go_sem, t18, kc]
      first | exact ⟨hC, Below.refl _ _, rfl⟩ | (rw [if_neg (by omega)]; exact ⟨hC, Below.refl _ _, rfl⟩)
    · refine ⟨rfl, fun v W ρ hC kc kf ks ki kd => ?_⟩
      have t1 : ρ (.tmp 1) = .pointer (some ⟨w.heap.size, 0, none⟩) := ki 1 (by decide)
      simp [execOp, go_sem, t1]
      exact ⟨hC, Below.refl _ _, rfl⟩
    · refine ⟨rfl, fun v W ρ hC kc kf ks ki kd => ?_⟩
      have d6 : v 6 = .pointer (some ⟨w.heap.size, 2, none⟩) := kd _ (Array.mem_of_getElem? (i := 0) rfl) rfl
      have t20 : ρ (.tmp 20) = v 6 := ks 6 20 (by decide) rfl
      rw [d6] at t20
      have c0 := blk_cell (blk_later hGP0.out hC) 2
      simp at c0
      simp [execOp, go_sem, t20, c0]
      exact ⟨hC, Below.refl _ _, rfl⟩
    · refine ⟨rfl, fun v W ρ hC kc kf ks ki kd => ?_⟩
      have d7 : v 7 = .int .i64 t.sport := kd _ (Array.mem_of_getElem? (i := 0) rfl) rfl
      have t21 : ρ (.tmp 21) = v 7 := ks 7 21 (by decide) rfl
      rw [d7] at t21
      simp [execOp, go_sem, t21, kf]
      exact Calls.mono (HD1.out _) (fun e x h => ⟨_, h.1, hC.trans (h.2.mono hC.size), h.2, rfl⟩)
    · refine ⟨rfl, fun v W ρ hC kc kf ks ki kd => ?_⟩
      have d5 : v 5 = .string (⟨#[112, 105, 110, 103, 32]⟩ ++ (addrAns t.src) ++ ⟨#[58]⟩) := kd _ (Array.mem_of_getElem? (i := 0) rfl) rfl
      have t19 : ρ (.tmp 19) = v 5 := ks 5 19 (by decide) rfl
      rw [d5] at t19
      have d8 : v 8 = .string (decT t.sport.toNat) := kd _ (Array.mem_of_getElem? (i := 1) rfl) rfl
      have t22 : ρ (.tmp 22) = v 8 := ks 8 22 (by decide) rfl
      rw [d8] at t22
      simp [execOp, go_sem, t19, t22, kc]
      first | exact ⟨hC, Below.refl _ _, rfl⟩ | (rw [if_neg (by omega)]; exact ⟨hC, Below.refl _ _, rfl⟩)
    · refine ⟨rfl, fun v W ρ hC kc kf ks ki kd => ?_⟩
      have d9 : v 9 = .string (⟨#[112, 105, 110, 103, 32]⟩ ++ (addrAns t.src) ++ ⟨#[58]⟩ ++ (decT t.sport.toNat)) := kd _ (Array.mem_of_getElem? (i := 0) rfl) rfl
      have t23 : ρ (.tmp 23) = v 9 := ks 9 23 (by decide) rfl
      rw [d9] at t23
      simp [execOp, go_sem, t23, kc]
      first | exact ⟨hC, Below.refl _ _, rfl⟩ | (rw [if_neg (by omega)]; exact ⟨hC, Below.refl _ _, rfl⟩)
    · refine ⟨rfl, fun v W ρ hC kc kf ks ki kd => ?_⟩
      have t1 : ρ (.tmp 1) = .pointer (some ⟨w.heap.size, 0, none⟩) := ki 1 (by decide)
      simp [execOp, go_sem, t1]
      exact ⟨hC, Below.refl _ _, rfl⟩
    · refine ⟨rfl, fun v W ρ hC kc kf ks ki kd => ?_⟩
      have d11 : v 11 = .pointer (some ⟨w.heap.size, 3, none⟩) := kd _ (Array.mem_of_getElem? (i := 0) rfl) rfl
      have t25 : ρ (.tmp 25) = v 11 := ks 11 25 (by decide) rfl
      rw [d11] at t25
      have c0 := blk_cell (blk_later hGP0.out hC) 3
      simp at c0
      simp [execOp, go_sem, t25, c0]
      exact ⟨hC, Below.refl _ _, rfl⟩
    · refine ⟨rfl, fun v W ρ hC kc kf ks ki kd => ?_⟩
      have d12 : v 12 = .int .i64 t.dst := kd _ (Array.mem_of_getElem? (i := 0) rfl) rfl
      have t26 : ρ (.tmp 26) = v 12 := ks 12 26 (by decide) rfl
      rw [d12] at t26
      simp [execOp, go_sem, t26, kf]
      exact Calls.mono (HA2.out _) (fun e x h => ⟨_, h.1, hC.trans (h.2.mono hC.size), h.2, rfl⟩)
    · refine ⟨rfl, fun v W ρ hC kc kf ks ki kd => ?_⟩
      have d10 : v 10 = .string (⟨#[112, 105, 110, 103, 32]⟩ ++ (addrAns t.src) ++ ⟨#[58]⟩ ++ (decT t.sport.toNat) ++ ⟨#[62]⟩) := kd _ (Array.mem_of_getElem? (i := 0) rfl) rfl
      have t24 : ρ (.tmp 24) = v 10 := ks 10 24 (by decide) rfl
      rw [d10] at t24
      have d13 : v 13 = .string (addrAns t.dst) := kd _ (Array.mem_of_getElem? (i := 1) rfl) rfl
      have t27 : ρ (.tmp 27) = v 13 := ks 13 27 (by decide) rfl
      rw [d13] at t27
      simp [execOp, go_sem, t24, t27, kc]
      first | exact ⟨hC, Below.refl _ _, rfl⟩ | (rw [if_neg (by omega)]; exact ⟨hC, Below.refl _ _, rfl⟩)
    · refine ⟨rfl, fun v W ρ hC kc kf ks ki kd => ?_⟩
      have d14 : v 14 = .string (⟨#[112, 105, 110, 103, 32]⟩ ++ (addrAns t.src) ++ ⟨#[58]⟩ ++ (decT t.sport.toNat) ++ ⟨#[62]⟩ ++ (addrAns t.dst)) := kd _ (Array.mem_of_getElem? (i := 0) rfl) rfl
      have t28 : ρ (.tmp 28) = v 14 := ks 14 28 (by decide) rfl
      rw [d14] at t28
      simp [execOp, go_sem, t28, kc]
      first | exact ⟨hC, Below.refl _ _, rfl⟩ | (rw [if_neg (by omega)]; exact ⟨hC, Below.refl _ _, rfl⟩)
    · refine ⟨rfl, fun v W ρ hC kc kf ks ki kd => ?_⟩
      have t1 : ρ (.tmp 1) = .pointer (some ⟨w.heap.size, 0, none⟩) := ki 1 (by decide)
      simp [execOp, go_sem, t1]
      exact ⟨hC, Below.refl _ _, rfl⟩
    · refine ⟨rfl, fun v W ρ hC kc kf ks ki kd => ?_⟩
      have d16 : v 16 = .pointer (some ⟨w.heap.size, 4, none⟩) := kd _ (Array.mem_of_getElem? (i := 0) rfl) rfl
      have t30 : ρ (.tmp 30) = v 16 := ks 16 30 (by decide) rfl
      rw [d16] at t30
      have c0 := blk_cell (blk_later hGP0.out hC) 4
      simp at c0
      simp [execOp, go_sem, t30, c0]
      exact ⟨hC, Below.refl _ _, rfl⟩
    · refine ⟨rfl, fun v W ρ hC kc kf ks ki kd => ?_⟩
      have d17 : v 17 = .int .i64 t.dport := kd _ (Array.mem_of_getElem? (i := 0) rfl) rfl
      have t31 : ρ (.tmp 31) = v 17 := ks 17 31 (by decide) rfl
      rw [d17] at t31
      simp [execOp, go_sem, t31, kf]
      exact Calls.mono (HD2.out _) (fun e x h => ⟨_, h.1, hC.trans (h.2.mono hC.size), h.2, rfl⟩)
    · refine ⟨rfl, fun v W ρ hC kc kf ks ki kd => ?_⟩
      have d15 : v 15 = .string (⟨#[112, 105, 110, 103, 32]⟩ ++ (addrAns t.src) ++ ⟨#[58]⟩ ++ (decT t.sport.toNat) ++ ⟨#[62]⟩ ++ (addrAns t.dst) ++ ⟨#[58]⟩) := kd _ (Array.mem_of_getElem? (i := 0) rfl) rfl
      have t29 : ρ (.tmp 29) = v 15 := ks 15 29 (by decide) rfl
      rw [d15] at t29
      have d18 : v 18 = .string (decT t.dport.toNat) := kd _ (Array.mem_of_getElem? (i := 1) rfl) rfl
      have t32 : ρ (.tmp 32) = v 18 := ks 18 32 (by decide) rfl
      rw [d18] at t32
      simp [execOp, go_sem, t29, t32, kc]
      first | exact ⟨hC, Below.refl _ _, rfl⟩ | (rw [if_neg (by omega)]; exact ⟨hC, Below.refl _ _, rfl⟩)
    · refine ⟨rfl, fun v W ρ hC kc kf ks ki kd => ?_⟩
      have t4 : ρ (.tmp 4) = .string ⟨#[63]⟩ := ki 4 (by decide)
      simp [execOp, go_sem, t4]
      exact ⟨hC, Below.refl _ _, rfl⟩
    · refine ⟨rfl, fun v W ρ hC kc kf ks ki kd => ?_⟩
      have d19 : v 19 = .string (⟨#[112, 105, 110, 103, 32]⟩ ++ (addrAns t.src) ++ ⟨#[58]⟩ ++ (decT t.sport.toNat) ++ ⟨#[62]⟩ ++ (addrAns t.dst) ++ ⟨#[58]⟩ ++ (decT t.dport.toNat)) := kd _ (Array.mem_of_getElem? (i := 0) rfl) rfl
      have t33 : ρ (.tmp 33) = v 19 := ks 19 33 (by decide) rfl
      rw [d19] at t33
      have d20 : v 20 = .string ⟨#[63]⟩ := kd _ (Array.mem_of_getElem? (i := 1) rfl) rfl
      have t34 : ρ (.tmp 34) = v 20 := ks 20 34 (by decide) rfl
      rw [d20] at t34
      simp [execOp, go_sem, t33, t34, kc]
      first | exact ⟨hC, Below.refl _ _, rfl⟩ | (rw [if_neg (by omega)]; exact ⟨hC, Below.refl _ _, rfl⟩)
    · refine ⟨rfl, fun v W ρ hC kc kf ks ki kd => ?_⟩
      have d21 : v 21 = .string (⟨#[112, 105, 110, 103, 32]⟩ ++ (addrAns t.src) ++ ⟨#[58]⟩ ++ (decT t.sport.toNat) ++ ⟨#[62]⟩ ++ (addrAns t.dst) ++ ⟨#[58]⟩ ++ (decT t.dport.toNat) ++ ⟨#[63]⟩) := kd _ (Array.mem_of_getElem? (i := 0) rfl) rfl
      have t35 : ρ (.tmp 35) = v 21 := ks 21 35 (by decide) rfl
      rw [d21] at t35
      simp [execOp, go_sem, t35]
      exact ⟨hC, Below.refl _ _, rfl⟩
  intro vV w1 hb1 hall
  have hvV : vV 22 = .string (⟨#[112, 105, 110, 103, 32]⟩ ++ (addrAns t.src) ++ ⟨#[58]⟩ ++ (decT t.sport.toNat) ++ ⟨#[62]⟩ ++ (addrAns t.dst) ++ ⟨#[58]⟩ ++ (decT t.dport.toNat) ++ ⟨#[63]⟩) := hall 22 (by decide)
  simp [upto, Act.put]
  rw [hvV]
  clear hall hvV
  have hGP1 := hidS (blk_later hGP0.out hb1)
  have hL1 := hidS (hL0.out.trans (hb1.mono hL0.out.size))
  clear hb1 hL0 hGP0
  go_wp2_with fail
  go_ret
  exact ⟨rfl, hL1.out⟩

set_option maxHeartbeats 4000000 in
theorem l04Text_reply (t : Tp) (w : World) (hr : rightT t = true) (h1 : t.proto = 1) (h8 : t.kind ≠ 8) :
    Calls Tryd.prog 26 #[.agg #[.int .i64 t.proto, .int .i64 t.src, .int .i64 t.sport, .int .i64 t.dst, .int .i64 t.dport, .int .i64 t.kind]] w fun e w' => e = .returned (.string (tupT t)) ∧ Below w.heap.size w w' := by
  obtain ⟨⟨p1, p2⟩, q1, q2⟩ := right_ports hr
  have HA1 := hidS (fun W => specAddrText_any t.src W)
  have HA2 := hidS (fun W => specAddrText_any t.dst W)
  have HD1 := hidS (fun W => l01Dec_of (x := t.sport) t.sport.toNat W (by omega) (by omega))
  have HD2 := hidS (fun W => l01Dec_of (x := t.dport) t.dport.toNat W (by omega) (by omega))
  have z1 := addrAns_size t.src
  have z2 := addrAns_size t.dst
  have z3 := decT_size t.sport.toNat
  have z4 := decT_size t.dport.toNat
  clear p1 p2 q1 q2 hr
  have eN : nameS t = ⟨#[112, 105, 110, 103, 32]⟩ := by unfold nameS; rw [if_neg (by omega), if_pos h1]
  have eM : markL t = ⟨#[33]⟩ := by unfold markL; rw [if_pos h1, if_neg h8]
  unfold tupT
  rw [eN, eM]
  clear eN eM
  have h17' : (t.proto == 17) = false := beq_eq_false_iff_ne.2 (by omega)
  have h1' : (t.proto == 1) = true := beq_iff_eq.2 h1
  have h8' : (t.kind == 8) = false := beq_eq_false_iff_ne.2 h8
  clear h1 h8
  have hGP0 : Hid ((w.alloc (.cells #[.int .i64 t.proto, .int .i64 t.src, .int .i64 t.sport, .int .i64 t.dst, .int .i64 t.dport, .int .i64 t.kind] 33)).heap[w.heap.size]? = some (.cells #[.int .i64 t.proto, .int .i64 t.src, .int .i64 t.sport, .int .i64 t.dst, .int .i64 t.dport, .int .i64 t.kind] 33)) := by
    show _ = _
    have := heap_newG w (.cells #[.int .i64 t.proto, .int .i64 t.src, .int .i64 t.sport, .int .i64 t.dst, .int .i64 t.dport, .int .i64 t.kind] 33)
    simpa using this
  have hL0 := hidS ((Below.refl w.heap.size w).alloc (Nat.le_refl _) (.cells #[.int .i64 t.proto, .int .i64 t.src, .int .i64 t.sport, .int .i64 t.dst, .int .i64 t.dport, .int .i64 t.kind] 33))
  go_enter Tryd.func26, Tryd.ntmps26
  go_wp2_with fail
  generalize (w.alloc (.cells #[.int .i64 t.proto, .int .i64 t.src, .int .i64 t.sport, .int .i64 t.dst, .int .i64 t.dport, .int .i64 t.kind] 33)) = w0 at hGP0 hL0 ⊢
  refine grow_kinds 23 [.is (.string ⟨#[112, 105, 110, 103, 32]⟩), .is (.pointer (some ⟨w.heap.size, 1, none⟩)), .is (.int .i64 t.src), .is (.string (addrAns t.src)), .is (.string (⟨#[112, 105, 110, 103, 32]⟩ ++ (addrAns t.src))), .is (.string (⟨#[112, 105, 110, 103, 32]⟩ ++ (addrAns t.src) ++ ⟨#[58]⟩)), .is (.pointer (some ⟨w.heap.size, 2, none⟩)), .is (.int .i64 t.sport), .is (.string (decT t.sport.toNat)), .is (.string (⟨#[112, 105, 110, 103, 32]⟩ ++ (addrAns t.src) ++ ⟨#[58]⟩ ++ (decT t.sport.toNat))), .is (.string (⟨#[112, 105, 110, 103, 32]⟩ ++ (addrAns t.src) ++ ⟨#[58]⟩ ++ (decT t.sport.toNat) ++ ⟨#[62]⟩)), .is (.pointer (some ⟨w.heap.size, 3, none⟩)), .is (.int .i64 t.dst), .is (.string (addrAns t.dst)), .is (.string (⟨#[112, 105, 110, 103, 32]⟩ ++ (addrAns t.src) ++ ⟨#[58]⟩ ++ (decT t.sport.toNat) ++ ⟨#[62]⟩ ++ (addrAns t.dst))), .is (.string (⟨#[112, 105, 110, 103, 32]⟩ ++ (addrAns t.src) ++ ⟨#[58]⟩ ++ (decT t.sport.toNat) ++ ⟨#[62]⟩ ++ (addrAns t.dst) ++ ⟨#[58]⟩)), .is (.pointer (some ⟨w.heap.size, 4, none⟩)), .is (.int .i64 t.dport), .is (.string (decT t.dport.toNat)), .is (.string (⟨#[112, 105, 110, 103, 32]⟩ ++ (addrAns t.src) ++ ⟨#[58]⟩ ++ (decT t.sport.toNat) ++ ⟨#[62]⟩ ++ (addrAns t.dst) ++ ⟨#[58]⟩ ++ (decT t.dport.toNat))), .is (.string ⟨#[33]⟩), .is (.string (⟨#[112, 105, 110, 103, 32]⟩ ++ (addrAns t.src) ++ ⟨#[58]⟩ ++ (decT t.sport.toNat) ++ ⟨#[62]⟩ ++ (addrAns t.dst) ++ ⟨#[58]⟩ ++ (decT t.dport.toNat) ++ ⟨#[33]⟩)), .is (.string (⟨#[112, 105, 110, 103, 32]⟩ ++ (addrAns t.src) ++ ⟨#[58]⟩ ++ (decT t.sport.toNat) ++ ⟨#[62]⟩ ++ (addrAns t.dst) ++ ⟨#[58]⟩ ++ (decT t.dport.toNat) ++ ⟨#[33]⟩))] rfl (by kernel_rfl) (by kernel_rfl) ?stepsV ?finV
  case stepsV =>
    refine ⟨?_, ?_, ?_, ?_, ?_, ?_, ?_, ?_, ?_, ?_, ?_, ?_, ?_, ?_, ?_, ?_, ?_, ?_, ?_, ?_, ?_, ?_, ?_, trivial⟩
    · refine ⟨rfl, fun v W ρ hC kc kf ks ki kd => ?_⟩
      have t3 : ρ (.tmp 3) = .string ⟨#[112, 105, 110, 103, 32]⟩ := ki 3 (by decide)
      simp [execOp, go_sem, t3]
      exact ⟨hC, Below.refl _ _, rfl⟩
    · refine ⟨rfl, fun v W ρ hC kc kf ks ki kd => ?_⟩
      have t1 : ρ (.tmp 1) = .pointer (some ⟨w.heap.size, 0, none⟩) := ki 1 (by decide)
      simp [execOp, go_sem, t1]
      exact ⟨hC, Below.refl _ _, rfl⟩
    · refine ⟨rfl, fun v W ρ hC kc kf ks ki kd => ?_⟩
      have d1 : v 1 = .pointer (some ⟨w.heap.size, 1, none⟩) := kd _ (Array.mem_of_getElem? (i := 0) rfl) rfl
      have t15 : ρ (.tmp 15) = v 1 := ks 1 15 (by decide) rfl
      rw [d1] at t15
      have c0 := blk_cell (blk_later hGP0.out hC) 1
      simp at c0
      simp [execOp, go_sem, t15, c0]
      exact ⟨hC, Below.refl _ _, rfl⟩
    · refine ⟨rfl, fun v W ρ hC kc kf ks ki kd => ?_⟩
      have d2 : v 2 = .int .i64 t.src := kd _ (Array.mem_of_getElem? (i := 0) rfl) rfl
      have t16 : ρ (.tmp 16) = v 2 := ks 2 16 (by decide) rfl
      rw [d2] at t16
      simp [execOp, go_sem, t16, kf]
      exact Calls.mono (HA1.out _) (fun e x h => ⟨_, h.1, hC.trans (h.2.mono hC.size), h.2, rfl⟩)
    · refine ⟨rfl, fun v W ρ hC kc kf ks ki kd => ?_⟩
      have d0 : v 0 = .string ⟨#[112, 105, 110, 103, 32]⟩ := kd _ (Array.mem_of_getElem? (i := 0) rfl) rfl
      have t14 : ρ (.tmp 14) = v 0 := ks 0 14 (by decide) rfl
      rw [d0] at t14
      have d3 : v 3 = .string (addrAns t.src) := kd _ (Array.mem_of_getElem? (i := 1) rfl) rfl
      have t17 : ρ (.tmp 17) = v 3 := ks 3 17 (by decide) rfl
      rw [d3] at t17
      simp [execOp, go_sem, t14, t17, kc]
      first | exact ⟨hC, Below.refl _ _, rfl⟩ | (rw [if_neg (by omega)]; exact ⟨hC, Below.refl _ _, rfl⟩)
    · refine ⟨rfl, fun v W ρ hC kc kf ks ki kd => ?_⟩
      have d4 : v 4 = .string (⟨#[112, 105, 110, 103, 32]⟩ ++ (addrAns t.src)) := kd _ (Array.mem_of_getElem? (i := 0) rfl) rfl
      have t18 : ρ (.tmp 18) = v 4 := ks 4 18 (by decide) rfl
      rw [d4] at t18
      simp [execOp, go_sem, t18, kc]
      first | exact ⟨hC, Below.refl _ _, rfl⟩ | (rw [if_neg (by omega)]; exact ⟨hC, Below.refl _ _, rfl⟩)
    · refine ⟨rfl, fun v W ρ hC kc kf ks ki kd => ?_⟩
      have t1 : ρ (.tmp 1) = .pointer (some ⟨w.heap.size, 0, none⟩) := ki 1 (by decide)
      simp [execOp, go_sem, t1]
      exact ⟨hC, Below.refl _ _, rfl⟩
    · refine ⟨rfl, fun v W ρ hC kc kf ks ki kd => ?_⟩
      have d6 : v 6 = .pointer (some ⟨w.heap.size, 2, none⟩) := kd _ (Array.mem_of_getElem? (i := 0) rfl) rfl
      have t20 : ρ (.tmp 20) = v 6 := ks 6 20 (by decide) rfl
      rw [d6] at t20
      have c0 := blk_cell (blk_later hGP0.out hC) 2
      simp at c0
      simp [execOp, go_sem, t20, c0]
      exact ⟨hC, Below.refl _ _, rfl⟩
    · refine ⟨rfl, fun v W ρ hC kc kf ks ki kd => ?_⟩
      have d7 : v 7 = .int .i64 t.sport := kd _ (Array.mem_of_getElem? (i := 0) rfl) rfl
      have t21 : ρ (.tmp 21) = v 7 := ks 7 21 (by decide) rfl
      rw [d7] at t21
      simp [execOp, go_sem, t21, kf]
      exact Calls.mono (HD1.out _) (fun e x h => ⟨_, h.1, hC.trans (h.2.mono hC.size), h.2, rfl⟩)
    · refine ⟨rfl, fun v W ρ hC kc kf ks ki kd => ?_⟩
      have d5 : v 5 = .string (⟨#[112, 105, 110, 103, 32]⟩ ++ (addrAns t.src) ++ ⟨#[58]⟩) := kd _ (Array.mem_of_getElem? (i := 0) rfl) rfl
      have t19 : ρ (.tmp 19) = v 5 := ks 5 19 (by decide) rfl
      rw [d5] at t19
      have d8 : v 8 = .string (decT t.sport.toNat) := kd _ (Array.mem_of_getElem? (i := 1) rfl) rfl
      have t22 : ρ (.tmp 22) = v 8 := ks 8 22 (by decide) rfl
      rw [d8] at t22
      simp [execOp, go_sem, t19, t22, kc]
      first | exact ⟨hC, Below.refl _ _, rfl⟩ | (rw [if_neg (by omega)]; exact ⟨hC, Below.refl _ _, rfl⟩)
    · refine ⟨rfl, fun v W ρ hC kc kf ks ki kd => ?_⟩
      have d9 : v 9 = .string (⟨#[112, 105, 110, 103, 32]⟩ ++ (addrAns t.src) ++ ⟨#[58]⟩ ++ (decT t.sport.toNat)) := kd _ (Array.mem_of_getElem? (i := 0) rfl) rfl
      have t23 : ρ (.tmp 23) = v 9 := ks 9 23 (by decide) rfl
      rw [d9] at t23
      simp [execOp, go_sem, t23, kc]
      first | exact ⟨hC, Below.refl _ _, rfl⟩ | (rw [if_neg (by omega)]; exact ⟨hC, Below.refl _ _, rfl⟩)
    · refine ⟨rfl, fun v W ρ hC kc kf ks ki kd => ?_⟩
      have t1 : ρ (.tmp 1) = .pointer (some ⟨w.heap.size, 0, none⟩) := ki 1 (by decide)
      simp [execOp, go_sem, t1]
      exact ⟨hC, Below.refl _ _, rfl⟩
    · refine ⟨rfl, fun v W ρ hC kc kf ks ki kd => ?_⟩
      have d11 : v 11 = .pointer (some ⟨w.heap.size, 3, none⟩) := kd _ (Array.mem_of_getElem? (i := 0) rfl) rfl
      have t25 : ρ (.tmp 25) = v 11 := ks 11 25 (by decide) rfl
      rw [d11] at t25
      have c0 := blk_cell (blk_later hGP0.out hC) 3
      simp at c0
      simp [execOp, go_sem, t25, c0]
      exact ⟨hC, Below.refl _ _, rfl⟩
    · refine ⟨rfl, fun v W ρ hC kc kf ks ki kd => ?_⟩
      have d12 : v 12 = .int .i64 t.dst := kd _ (Array.mem_of_getElem? (i := 0) rfl) rfl
      have t26 : ρ (.tmp 26) = v 12 := ks 12 26 (by decide) rfl
      rw [d12] at t26
      simp [execOp, go_sem, t26, kf]
      exact Calls.mono (HA2.out _) (fun e x h => ⟨_, h.1, hC.trans (h.2.mono hC.size), h.2, rfl⟩)
    · refine ⟨rfl, fun v W ρ hC kc kf ks ki kd => ?_⟩
      have d10 : v 10 = .string (⟨#[112, 105, 110, 103, 32]⟩ ++ (addrAns t.src) ++ ⟨#[58]⟩ ++ (decT t.sport.toNat) ++ ⟨#[62]⟩) := kd _ (Array.mem_of_getElem? (i := 0) rfl) rfl
      have t24 : ρ (.tmp 24) = v 10 := ks 10 24 (by decide) rfl
      rw [d10] at t24
      have d13 : v 13 = .string (addrAns t.dst) := kd _ (Array.mem_of_getElem? (i := 1) rfl) rfl
      have t27 : ρ (.tmp 27) = v 13 := ks 13 27 (by decide) rfl
      rw [d13] at t27
      simp [execOp, go_sem, t24, t27, kc]
      first | exact ⟨hC, Below.refl _ _, rfl⟩ | (rw [if_neg (by omega)]; exact ⟨hC, Below.refl _ _, rfl⟩)
    · refine ⟨rfl, fun v W ρ hC kc kf ks ki kd => ?_⟩
      have d14 : v 14 = .string (⟨#[112, 105, 110, 103, 32]⟩ ++ (addrAns t.src) ++ ⟨#[58]⟩ ++ (decT t.sport.toNat) ++ ⟨#[62]⟩ ++ (addrAns t.dst)) := kd _ (Array.mem_of_getElem? (i := 0) rfl) rfl
      have t28 : ρ (.tmp 28) = v 14 := ks 14 28 (by decide) rfl
      rw [d14] at t28
      simp [execOp, go_sem, t28, kc]
      first | exact ⟨hC, Below.refl _ _, rfl⟩ | (rw [if_neg (by omega)]; exact ⟨hC, Below.refl _ _, rfl⟩)
    · refine ⟨rfl, fun v W ρ hC kc kf ks ki kd => ?_⟩
      have t1 : ρ (.tmp 1) = .pointer (some ⟨w.heap.size, 0, none⟩) := ki 1 (by decide)
      simp [execOp, go_sem, t1]
      exact ⟨hC, Below.refl _ _, rfl⟩
    · refine ⟨rfl, fun v W ρ hC kc kf ks ki kd => ?_⟩
      have d16 : v 16 = .pointer (some ⟨w.heap.size, 4, none⟩) := kd _ (Array.mem_of_getElem? (i := 0) rfl) rfl
      have t30 : ρ (.tmp 30) = v 16 := ks 16 30 (by decide) rfl
      rw [d16] at t30
      have c0 := blk_cell (blk_later hGP0.out hC) 4
      simp at c0
      simp [execOp, go_sem, t30, c0]
      exact ⟨hC, Below.refl _ _, rfl⟩
    · refine ⟨rfl, fun v W ρ hC kc kf ks ki kd => ?_⟩
      have d17 : v 17 = .int .i64 t.dport := kd _ (Array.mem_of_getElem? (i := 0) rfl) rfl
      have t31 : ρ (.tmp 31) = v 17 := ks 17 31 (by decide) rfl
      rw [d17] at t31
      simp [execOp, go_sem, t31, kf]
      exact Calls.mono (HD2.out _) (fun e x h => ⟨_, h.1, hC.trans (h.2.mono hC.size), h.2, rfl⟩)
    · refine ⟨rfl, fun v W ρ hC kc kf ks ki kd => ?_⟩
      have d15 : v 15 = .string (⟨#[112, 105, 110, 103, 32]⟩ ++ (addrAns t.src) ++ ⟨#[58]⟩ ++ (decT t.sport.toNat) ++ ⟨#[62]⟩ ++ (addrAns t.dst) ++ ⟨#[58]⟩) := kd _ (Array.mem_of_getElem? (i := 0) rfl) rfl
      have t29 : ρ (.tmp 29) = v 15 := ks 15 29 (by decide) rfl
      rw [d15] at t29
      have d18 : v 18 = .string (decT t.dport.toNat) := kd _ (Array.mem_of_getElem? (i := 1) rfl) rfl
      have t32 : ρ (.tmp 32) = v 18 := ks 18 32 (by decide) rfl
      rw [d18] at t32
      simp [execOp, go_sem, t29, t32, kc]
      first | exact ⟨hC, Below.refl _ _, rfl⟩ | (rw [if_neg (by omega)]; exact ⟨hC, Below.refl _ _, rfl⟩)
    · refine ⟨rfl, fun v W ρ hC kc kf ks ki kd => ?_⟩
      have t4 : ρ (.tmp 4) = .string ⟨#[33]⟩ := ki 4 (by decide)
      simp [execOp, go_sem, t4]
      exact ⟨hC, Below.refl _ _, rfl⟩
    · refine ⟨rfl, fun v W ρ hC kc kf ks ki kd => ?_⟩
      have d19 : v 19 = .string (⟨#[112, 105, 110, 103, 32]⟩ ++ (addrAns t.src) ++ ⟨#[58]⟩ ++ (decT t.sport.toNat) ++ ⟨#[62]⟩ ++ (addrAns t.dst) ++ ⟨#[58]⟩ ++ (decT t.dport.toNat)) := kd _ (Array.mem_of_getElem? (i := 0) rfl) rfl
      have t33 : ρ (.tmp 33) = v 19 := ks 19 33 (by decide) rfl
      rw [d19] at t33
      have d20 : v 20 = .string ⟨#[33]⟩ := kd _ (Array.mem_of_getElem? (i := 1) rfl) rfl
      have t34 : ρ (.tmp 34) = v 20 := ks 20 34 (by decide) rfl
      rw [d20] at t34
      simp [execOp, go_sem, t33, t34, kc]
      first | exact ⟨hC, Below.refl _ _, rfl⟩ | (rw [if_neg (by omega)]; exact ⟨hC, Below.refl _ _, rfl⟩)
    · refine ⟨rfl, fun v W ρ hC kc kf ks ki kd => ?_⟩
      have d21 : v 21 = .string (⟨#[112, 105, 110, 103, 32]⟩ ++ (addrAns t.src) ++ ⟨#[58]⟩ ++ (decT t.sport.toNat) ++ ⟨#[62]⟩ ++ (addrAns t.dst) ++ ⟨#[58]⟩ ++ (decT t.dport.toNat) ++ ⟨#[33]⟩) := kd _ (Array.mem_of_getElem? (i := 0) rfl) rfl
      have t35 : ρ (.tmp 35) = v 21 := ks 21 35 (by decide) rfl
      rw [d21] at t35
      simp [execOp, go_sem, t35]
      exact ⟨hC, Below.refl _ _, rfl⟩
  intro vV w1 hb1 hall
  have hvV : vV 22 = .string (⟨#[112, 105, 110, 103, 32]⟩ ++ (addrAns t.src) ++ ⟨#[58]⟩ ++ (decT t.sport.toNat) ++ ⟨#[62]⟩ ++ (addrAns t.dst) ++ ⟨#[58]⟩ ++ (decT t.dport.toNat) ++ ⟨#[33]⟩) := hall 22 (by decide)
  simp [upto, Act.put]
  rw [hvV]
  clear hall hvV
  have hGP1 := hidS (blk_later hGP0.out hb1)
  have hL1 := hidS (hL0.out.trans (hb1.mono hL0.out.size))
  clear hb1 hL0 hGP0
  go_wp2_with fail
  go_ret
  exact ⟨rfl, hL1.out⟩

theorem l04Text_any (t : Tp) (w : World) (hr : rightT t = true) :
    Calls Tryd.prog 26 #[.agg #[.int .i64 t.proto, .int .i64 t.src, .int .i64 t.sport, .int .i64 t.dst, .int .i64 t.dport, .int .i64 t.kind]] w fun e w' => e = .returned (.string (tupT t)) ∧ Below w.heap.size w w' := by
  by_cases h17 : t.proto = 17
  · exact l04Text_udp t w hr h17
  by_cases h1 : t.proto = 1
  · by_cases h8 : t.kind = 8
    · exact l04Text_ask t w hr h1 h8
    · exact l04Text_reply t w hr h1 h8
  · exact l04Text_tcp t w hr h17 h1
end Go.Proofs.YtbhemimhmkgfiaaDoor
