/- Proved here: impl.TupleHash answers a tuple's place by a key (else -1); all old memory stays (conditions: the key is a string; the library's table of the powers of ten holds them). · Proved here: spec.TupleRight answers whether a tuple is right; all old memory stays (no conditions). -/
import Derived.Test.YtedknnkdnccfmaaGreatDoorAll28
import Derived.Test.YtedknnkdnccfmaaGreatDoorTextI
import Derived.Test.YtedknnkdnccfmaaGreatDoorTupMath
import Derived.Test.YtedknnkdnccfmaaGreatDoorAll12
section
namespace Go.Proofs.YtedknnkdnccfmaaGreatDoor
open Go.ChangeShapes Go.WideShapes Go.ChangeAt Go.RowKit
set_option linter.unusedVariables false
set_option maxRecDepth 100000
set_option linter.unusedSimpArgs false

set_option maxHeartbeats 2000000 in
theorem implHash_any (t : Tp) (k : ByteArray) (n : Int) (w : World) (hs : k.size ≤ maxLen) (htab : Lib.TabIs Tryz.prog w "internal/strconv.uint64pow10" .u64 Lib.pow10Tab) :
    Calls Tryz.prog 26 #[.agg #[.int .i64 t.proto, .int .i64 t.src, .int .i64 t.sport, .int .i64 t.dst, .int .i64 t.dport, .int .i64 t.kind], .string k, .int .i64 n] w fun e w' => e = .returned (.int .i64 (hashAns t k n)) ∧ Below w.heap.size w w' := by
  have hs' : k.size ≤ 2 ^ 63 - 1 := hs
  have HR := hidS (fun W => implTRight_any t W)
  cases hr : rightT t
  · rw [hash_no (by unfold hashB; rw [hr]; rfl)]
    have hGP0 : Hid ((w.alloc (.cells #[.int .i64 t.proto, .int .i64 t.src, .int .i64 t.sport, .int .i64 t.dst, .int .i64 t.dport, .int .i64 t.kind] 40)).heap[w.heap.size]? = some (.cells #[.int .i64 t.proto, .int .i64 t.src, .int .i64 t.sport, .int .i64 t.dst, .int .i64 t.dport, .int .i64 t.kind] 40)) := by
      show _ = _
      have := heap_newG w (.cells #[.int .i64 t.proto, .int .i64 t.src, .int .i64 t.sport, .int .i64 t.dst, .int .i64 t.dport, .int .i64 t.kind] 40)
      simpa using this
    have hL0 := hidS ((Below.refl w.heap.size w).alloc (Nat.le_refl _) (.cells #[.int .i64 t.proto, .int .i64 t.src, .int .i64 t.sport, .int .i64 t.dst, .int .i64 t.dport, .int .i64 t.kind] 40))
    go_enter Tryz.func26, Tryz.ntmps26
    go_wp2_with fail
    refine (HR.out _).mono ?_
    rintro _ w1 ⟨rfl, hb1⟩
    have hGP1 := hidS (blk_later hGP0.out hb1)
    have hL1 := hidS (hL0.out.trans (hb1.mono hL0.out.size))
    clear hb1 hL0 hGP0
    rw [hr]
    go_wp2_with fail
    go_ret
    exact ⟨rfl, hL1.out⟩
  by_cases hk : 20 < k.size
  · rw [hash_no (by unfold hashB; rw [decide_eq_false (by omega : ¬ k.size ≤ 20)]; simp)]
    have hk' : (20 : Int) < (k.size : Int) := by omega
    have hGP0 : Hid ((w.alloc (.cells #[.int .i64 t.proto, .int .i64 t.src, .int .i64 t.sport, .int .i64 t.dst, .int .i64 t.dport, .int .i64 t.kind] 40)).heap[w.heap.size]? = some (.cells #[.int .i64 t.proto, .int .i64 t.src, .int .i64 t.sport, .int .i64 t.dst, .int .i64 t.dport, .int .i64 t.kind] 40)) := by
      show _ = _
      have := heap_newG w (.cells #[.int .i64 t.proto, .int .i64 t.src, .int .i64 t.sport, .int .i64 t.dst, .int .i64 t.dport, .int .i64 t.kind] 40)
      simpa using this
    have hL0 := hidS ((Below.refl w.heap.size w).alloc (Nat.le_refl _) (.cells #[.int .i64 t.proto, .int .i64 t.src, .int .i64 t.sport, .int .i64 t.dst, .int .i64 t.dport, .int .i64 t.kind] 40))
    go_enter Tryz.func26, Tryz.ntmps26
    go_wp2_with fail
    refine (HR.out _).mono ?_
    rintro _ w1 ⟨rfl, hb1⟩
    have hGP1 := hidS (blk_later hGP0.out hb1)
    have hL1 := hidS (hL0.out.trans (hb1.mono hL0.out.size))
    clear hb1 hL0 hGP0
    rw [hr]
    go_wp2_with fail
    go_ret
    exact ⟨rfl, hL1.out⟩
  have hk' : ¬ (20 : Int) < (k.size : Int) := by omega
  by_cases hn1 : n < 1
  · rw [hash_no (by unfold hashB; rw [decide_eq_false (by omega : ¬ (1 : Int) ≤ n)]; simp)]
    have hGP0 : Hid ((w.alloc (.cells #[.int .i64 t.proto, .int .i64 t.src, .int .i64 t.sport, .int .i64 t.dst, .int .i64 t.dport, .int .i64 t.kind] 40)).heap[w.heap.size]? = some (.cells #[.int .i64 t.proto, .int .i64 t.src, .int .i64 t.sport, .int .i64 t.dst, .int .i64 t.dport, .int .i64 t.kind] 40)) := by
      show _ = _
      have := heap_newG w (.cells #[.int .i64 t.proto, .int .i64 t.src, .int .i64 t.sport, .int .i64 t.dst, .int .i64 t.dport, .int .i64 t.kind] 40)
      simpa using this
    have hL0 := hidS ((Below.refl w.heap.size w).alloc (Nat.le_refl _) (.cells #[.int .i64 t.proto, .int .i64 t.src, .int .i64 t.sport, .int .i64 t.dst, .int .i64 t.dport, .int .i64 t.kind] 40))
    go_enter Tryz.func26, Tryz.ntmps26
    go_wp2_with fail
    refine (HR.out _).mono ?_
    rintro _ w1 ⟨rfl, hb1⟩
    have hGP1 := hidS (blk_later hGP0.out hb1)
    have hL1 := hidS (hL0.out.trans (hb1.mono hL0.out.size))
    clear hb1 hL0 hGP0
    rw [hr]
    go_wp2_with fail
    go_ret
    exact ⟨rfl, hL1.out⟩
  by_cases hn2 : 64 < n
  · rw [hash_no (by unfold hashB; rw [decide_eq_false (by omega : ¬ n ≤ 64)]; simp)]
    have hGP0 : Hid ((w.alloc (.cells #[.int .i64 t.proto, .int .i64 t.src, .int .i64 t.sport, .int .i64 t.dst, .int .i64 t.dport, .int .i64 t.kind] 40)).heap[w.heap.size]? = some (.cells #[.int .i64 t.proto, .int .i64 t.src, .int .i64 t.sport, .int .i64 t.dst, .int .i64 t.dport, .int .i64 t.kind] 40)) := by
      show _ = _
      have := heap_newG w (.cells #[.int .i64 t.proto, .int .i64 t.src, .int .i64 t.sport, .int .i64 t.dst, .int .i64 t.dport, .int .i64 t.kind] 40)
      simpa using this
    have hL0 := hidS ((Below.refl w.heap.size w).alloc (Nat.le_refl _) (.cells #[.int .i64 t.proto, .int .i64 t.src, .int .i64 t.sport, .int .i64 t.dst, .int .i64 t.dport, .int .i64 t.kind] 40))
    go_enter Tryz.func26, Tryz.ntmps26
    go_wp2_with fail
    refine (HR.out _).mono ?_
    rintro _ w1 ⟨rfl, hb1⟩
    have hGP1 := hidS (blk_later hGP0.out hb1)
    have hL1 := hidS (hL0.out.trans (hb1.mono hL0.out.size))
    clear hb1 hL0 hGP0
    rw [hr]
    go_wp2_with fail
    go_ret
    exact ⟨rfl, hL1.out⟩
  rw [hash_yes (by unfold hashB; rw [hr, decide_eq_true (by omega : k.size ≤ 20), decide_eq_true (by omega : (1 : Int) ≤ n), decide_eq_true (by omega : n ≤ 64)]; rfl)]
  have hn0 : ¬ n = 0 := by omega
  have hz := tupT_size t
  rw [← crc_app (by omega)]
  have HX := hidS (fun W (h : Below w.heap.size w W) => implText_yes t W hr (tab_later htab h))
  have HC := hidS (fun W => (implCrc_any k W hs).mono (fun e w' h => (⟨h.1, by rw [h.2]; exact Below.refl _ _⟩ : e = .returned (.int .i64 (crcAns 0 k)) ∧ Below W.heap.size W w')))
  have HM := hidS (fun W => (implCrcMore_any (crcAns 0 k) (tupT t) W (by unfold maxLen; omega)).mono (fun e w' h => (⟨h.1, by rw [h.2]; exact Below.refl _ _⟩ : e = .returned (.int .i64 (crcAns (crcAns 0 k) (tupT t))) ∧ Below W.heap.size W w')))
  clear htab
  generalize tupT t = q at *
  generalize crcAns 0 k = C at *
  generalize crcAns C q = D at *
  have hGP0 : Hid ((w.alloc (.cells #[.int .i64 t.proto, .int .i64 t.src, .int .i64 t.sport, .int .i64 t.dst, .int .i64 t.dport, .int .i64 t.kind] 40)).heap[w.heap.size]? = some (.cells #[.int .i64 t.proto, .int .i64 t.src, .int .i64 t.sport, .int .i64 t.dst, .int .i64 t.dport, .int .i64 t.kind] 40)) := by
    show _ = _
    have := heap_newG w (.cells #[.int .i64 t.proto, .int .i64 t.src, .int .i64 t.sport, .int .i64 t.dst, .int .i64 t.dport, .int .i64 t.kind] 40)
    simpa using this
  have hL0 := hidS ((Below.refl w.heap.size w).alloc (Nat.le_refl _) (.cells #[.int .i64 t.proto, .int .i64 t.src, .int .i64 t.sport, .int .i64 t.dst, .int .i64 t.dport, .int .i64 t.kind] 40))
  go_enter Tryz.func26, Tryz.ntmps26
  go_wp2_with fail
  refine (HR.out _).mono ?_
  rintro _ w1 ⟨rfl, hb1⟩
  have hGP1 := hidS (blk_later hGP0.out hb1)
  have hL1 := hidS (hL0.out.trans (hb1.mono hL0.out.size))
  clear hb1 hL0 hGP0
  rw [hr]
  go_wp2_with fail
  refine grow_kinds 8 [.is (.string k), .is (.int .i64 C), .is (.agg #[.int .i64 t.proto, .int .i64 t.src, .int .i64 t.sport, .int .i64 t.dst, .int .i64 t.dport, .int .i64 t.kind]), .is (.string q), .is (.int .i64 D), .is (.int .i64 n), .is (.int .i64 (D.tmod n)), .is (.int .i64 (D.tmod n))] rfl (by kernel_rfl) (by kernel_rfl) ?stepsV ?finV
  case stepsV =>
    refine ⟨?_, ?_, ?_, ?_, ?_, ?_, ?_, ?_, trivial⟩
    · refine ⟨rfl, fun v W ρ hC kc kf ks ki kd => ?_⟩
      have t1 : ρ (.tmp 1) = .string k := ki 1 (by decide)
      simp [execOp, go_sem, t1]
      exact ⟨hC, Below.refl _ _, rfl⟩
    · refine ⟨rfl, fun v W ρ hC kc kf ks ki kd => ?_⟩
      have d0 : v 0 = .string k := kd _ (Array.mem_of_getElem? (i := 0) rfl) rfl
      have t23 : ρ (.tmp 23) = v 0 := ks 0 23 (by decide) rfl
      rw [d0] at t23
      simp [execOp, go_sem, t23, kf]
      exact Calls.mono (HC.out _) (fun e x h => ⟨_, h.1, hC.trans (h.2.mono hC.size), h.2, rfl⟩)
    · refine ⟨rfl, fun v W ρ hC kc kf ks ki kd => ?_⟩
      have t3 : ρ (.tmp 3) = .pointer (some ⟨w.heap.size, 0, none⟩) := ki 3 (by decide)
      have hg := blk_later hGP1.out hC
      have c0 := blk_cell hg 0
      have c1 := blk_cell hg 1
      have c2 := blk_cell hg 2
      have c3 := blk_cell hg 3
      have c4 := blk_cell hg 4
      have c5 := blk_cell hg 5
      simp at c0 c1 c2 c3 c4 c5
      simp [execOp, go_sem, t3, c0, c1, c2, c3, c4, c5]
      exact ⟨hC, Below.refl _ _, rfl⟩
    · refine ⟨rfl, fun v W ρ hC kc kf ks ki kd => ?_⟩
      have d2 : v 2 = .agg #[.int .i64 t.proto, .int .i64 t.src, .int .i64 t.sport, .int .i64 t.dst, .int .i64 t.dport, .int .i64 t.kind] := kd _ (Array.mem_of_getElem? (i := 0) rfl) rfl
      have t25 : ρ (.tmp 25) = v 2 := ks 2 25 (by decide) rfl
      rw [d2] at t25
      simp [execOp, go_sem, t25, kf]
      exact Calls.mono (HX.out _ (hL1.out.trans (hC.mono hL1.out.size))) (fun e x h => ⟨_, h.1, hC.trans (h.2.mono hC.size), h.2, rfl⟩)
    · refine ⟨rfl, fun v W ρ hC kc kf ks ki kd => ?_⟩
      have d1 : v 1 = .int .i64 C := kd _ (Array.mem_of_getElem? (i := 0) rfl) rfl
      have t24 : ρ (.tmp 24) = v 1 := ks 1 24 (by decide) rfl
      rw [d1] at t24
      have d3 : v 3 = .string q := kd _ (Array.mem_of_getElem? (i := 1) rfl) rfl
      have t26 : ρ (.tmp 26) = v 3 := ks 3 26 (by decide) rfl
      rw [d3] at t26
      simp [execOp, go_sem, t24, t26, kf]
      exact Calls.mono (HM.out _) (fun e x h => ⟨_, h.1, hC.trans (h.2.mono hC.size), h.2, rfl⟩)
    · refine ⟨rfl, fun v W ρ hC kc kf ks ki kd => ?_⟩
      have t2 : ρ (.tmp 2) = .int .i64 n := ki 2 (by decide)
      simp [execOp, go_sem, t2]
      exact ⟨hC, Below.refl _ _, rfl⟩
    · refine ⟨rfl, fun v W ρ hC kc kf ks ki kd => ?_⟩
      have d4 : v 4 = .int .i64 D := kd _ (Array.mem_of_getElem? (i := 0) rfl) rfl
      have t27 : ρ (.tmp 27) = v 4 := ks 4 27 (by decide) rfl
      rw [d4] at t27
      have d5 : v 5 = .int .i64 n := kd _ (Array.mem_of_getElem? (i := 1) rfl) rfl
      have t28 : ρ (.tmp 28) = v 5 := ks 5 28 (by decide) rfl
      rw [d5] at t28
      simp [execOp, go_sem, t27, t28, hn0]
      exact ⟨hC, Below.refl _ _, rfl⟩
    · refine ⟨rfl, fun v W ρ hC kc kf ks ki kd => ?_⟩
      have d6 : v 6 = .int .i64 (D.tmod n) := kd _ (Array.mem_of_getElem? (i := 0) rfl) rfl
      have t29 : ρ (.tmp 29) = v 6 := ks 6 29 (by decide) rfl
      rw [d6] at t29
      simp [execOp, go_sem, t29]
      exact ⟨hC, Below.refl _ _, rfl⟩
  intro vV w2 hb2 hall
  have hvV : vV 7 = .int .i64 (D.tmod n) := hall 7 (by decide)
  simp [upto, Act.put]
  rw [hvV]
  clear hall hvV
  have hGP2 := hidS (blk_later hGP1.out hb2)
  have hL2 := hidS (hL1.out.trans (hb2.mono hL1.out.size))
  clear hb2 hL1 hGP1
  go_wp2_with fail
  go_ret
  exact ⟨rfl, hL2.out⟩
end Go.Proofs.YtedknnkdnccfmaaGreatDoor
end

section
namespace Go.Proofs.YtedknnkdnccfmaaGreatDoor
open Go.ChangeShapes Go.WideShapes Go.ChangeAt Go.RowKit
set_option linter.unusedVariables false

set_option maxHeartbeats 2000000 in
theorem specTRight_any (t : Tp) (w : World) :
    Calls Tryz.prog 30 #[.agg #[.int .i64 t.proto, .int .i64 t.src, .int .i64 t.sport, .int .i64 t.dst, .int .i64 t.dport, .int .i64 t.kind]] w fun e w' => e = .returned (.bool (rightT t)) ∧ Below w.heap.size w w' := by
  have HB := fun o => hidS ((Below.refl w.heap.size w).alloc (Nat.le_refl _) o)
  cases h1 : addrB t.src
  · have e : Hid (rightT t = false) := by unfold Hid rightT echoB; simp_all
    go_enter Tryz.func30, Tryz.ntmps30
    go_wp2_with (first | (go_at_call 59; refine (l02Addr_any _ _).mono ?_; rintro e w1 ⟨rfl, rfl⟩) | (go_at_call 60; refine (l02Word_any _ _).mono ?_; rintro e w1 ⟨rfl, rfl⟩))
    go_ret
    exact ⟨by rw [e.out]; rfl, (HB _).out⟩
  cases h2 : addrB t.dst
  · have e : Hid (rightT t = false) := by unfold Hid rightT echoB; simp_all
    go_enter Tryz.func30, Tryz.ntmps30
    go_wp2_with (first | (go_at_call 59; refine (l02Addr_any _ _).mono ?_; rintro e w1 ⟨rfl, rfl⟩) | (go_at_call 60; refine (l02Word_any _ _).mono ?_; rintro e w1 ⟨rfl, rfl⟩))
    go_ret
    exact ⟨by rw [e.out]; rfl, (HB _).out⟩
  cases h3 : wordB t.sport
  · have e : Hid (rightT t = false) := by unfold Hid rightT echoB; simp_all
    go_enter Tryz.func30, Tryz.ntmps30
    go_wp2_with (first | (go_at_call 59; refine (l02Addr_any _ _).mono ?_; rintro e w1 ⟨rfl, rfl⟩) | (go_at_call 60; refine (l02Word_any _ _).mono ?_; rintro e w1 ⟨rfl, rfl⟩))
    go_ret
    exact ⟨by rw [e.out]; rfl, (HB _).out⟩
  cases h4 : wordB t.dport
  · have e : Hid (rightT t = false) := by unfold Hid rightT echoB; simp_all
    go_enter Tryz.func30, Tryz.ntmps30
    go_wp2_with (first | (go_at_call 59; refine (l02Addr_any _ _).mono ?_; rintro e w1 ⟨rfl, rfl⟩) | (go_at_call 60; refine (l02Word_any _ _).mono ?_; rintro e w1 ⟨rfl, rfl⟩))
    go_ret
    exact ⟨by rw [e.out]; rfl, (HB _).out⟩
  by_cases p1 : t.proto = 1
  · have p1' : (t.proto == 1) = true := beq_iff_eq.2 p1
    by_cases k8 : t.kind = 8
    · have k8' : (t.kind == 8) = true := beq_iff_eq.2 k8
      by_cases hp : t.sport = t.dport
      · have hp' : (t.sport == t.dport) = true := beq_iff_eq.2 hp
        have e : Hid (rightT t = true) := by unfold Hid rightT echoB; simp_all
        go_enter Tryz.func30, Tryz.ntmps30
        go_wp2_with (first | (go_at_call 59; refine (l02Addr_any _ _).mono ?_; rintro e w1 ⟨rfl, rfl⟩) | (go_at_call 60; refine (l02Word_any _ _).mono ?_; rintro e w1 ⟨rfl, rfl⟩))
        go_ret
        exact ⟨by rw [e.out]; rfl, (HB _).out⟩
      · have hp' : (t.sport == t.dport) = false := beq_eq_false_iff_ne.2 hp
        have e : Hid (rightT t = false) := by unfold Hid rightT echoB; simp_all
        go_enter Tryz.func30, Tryz.ntmps30
        go_wp2_with (first | (go_at_call 59; refine (l02Addr_any _ _).mono ?_; rintro e w1 ⟨rfl, rfl⟩) | (go_at_call 60; refine (l02Word_any _ _).mono ?_; rintro e w1 ⟨rfl, rfl⟩))
        go_ret
        exact ⟨by rw [e.out]; rfl, (HB _).out⟩
    · have k8' : (t.kind == 8) = false := beq_eq_false_iff_ne.2 k8
      by_cases k0 : t.kind = 0
      · have k0' : (t.kind == 0) = true := beq_iff_eq.2 k0
        by_cases hp : t.sport = t.dport
        · have hp' : (t.sport == t.dport) = true := beq_iff_eq.2 hp
          have e : Hid (rightT t = true) := by unfold Hid rightT echoB; simp_all
          go_enter Tryz.func30, Tryz.ntmps30
          go_wp2_with (first | (go_at_call 59; refine (l02Addr_any _ _).mono ?_; rintro e w1 ⟨rfl, rfl⟩) | (go_at_call 60; refine (l02Word_any _ _).mono ?_; rintro e w1 ⟨rfl, rfl⟩))
          go_ret
          exact ⟨by rw [e.out]; rfl, (HB _).out⟩
        · have hp' : (t.sport == t.dport) = false := beq_eq_false_iff_ne.2 hp
          have e : Hid (rightT t = false) := by unfold Hid rightT echoB; simp_all
          go_enter Tryz.func30, Tryz.ntmps30
          go_wp2_with (first | (go_at_call 59; refine (l02Addr_any _ _).mono ?_; rintro e w1 ⟨rfl, rfl⟩) | (go_at_call 60; refine (l02Word_any _ _).mono ?_; rintro e w1 ⟨rfl, rfl⟩))
          go_ret
          exact ⟨by rw [e.out]; rfl, (HB _).out⟩
      · have k0' : (t.kind == 0) = false := beq_eq_false_iff_ne.2 k0
        have e : Hid (rightT t = false) := by unfold Hid rightT echoB; simp_all
        go_enter Tryz.func30, Tryz.ntmps30
        go_wp2_with (first | (go_at_call 59; refine (l02Addr_any _ _).mono ?_; rintro e w1 ⟨rfl, rfl⟩) | (go_at_call 60; refine (l02Word_any _ _).mono ?_; rintro e w1 ⟨rfl, rfl⟩))
        go_ret
        exact ⟨by rw [e.out]; rfl, (HB _).out⟩
  · have p1' : (t.proto == 1) = false := beq_eq_false_iff_ne.2 p1
    by_cases p6 : t.proto = 6
    · have p6' : (t.proto == 6) = true := beq_iff_eq.2 p6
      by_cases hk : t.kind = 0
      · have hk' : (t.kind == 0) = true := beq_iff_eq.2 hk
        have e : Hid (rightT t = true) := by unfold Hid rightT echoB; simp_all
        go_enter Tryz.func30, Tryz.ntmps30
        go_wp2_with (first | (go_at_call 59; refine (l02Addr_any _ _).mono ?_; rintro e w1 ⟨rfl, rfl⟩) | (go_at_call 60; refine (l02Word_any _ _).mono ?_; rintro e w1 ⟨rfl, rfl⟩))
        go_ret
        exact ⟨by rw [e.out]; rfl, (HB _).out⟩
      · have hk' : (t.kind == 0) = false := beq_eq_false_iff_ne.2 hk
        have e : Hid (rightT t = false) := by unfold Hid rightT echoB; simp_all
        go_enter Tryz.func30, Tryz.ntmps30
        go_wp2_with (first | (go_at_call 59; refine (l02Addr_any _ _).mono ?_; rintro e w1 ⟨rfl, rfl⟩) | (go_at_call 60; refine (l02Word_any _ _).mono ?_; rintro e w1 ⟨rfl, rfl⟩))
        go_ret
        exact ⟨by rw [e.out]; rfl, (HB _).out⟩
    · have p6' : (t.proto == 6) = false := beq_eq_false_iff_ne.2 p6
      by_cases p17 : t.proto = 17
      · have p17' : (t.proto == 17) = true := beq_iff_eq.2 p17
        by_cases hk : t.kind = 0
        · have hk' : (t.kind == 0) = true := beq_iff_eq.2 hk
          have e : Hid (rightT t = true) := by unfold Hid rightT echoB; simp_all
          go_enter Tryz.func30, Tryz.ntmps30
          go_wp2_with (first | (go_at_call 59; refine (l02Addr_any _ _).mono ?_; rintro e w1 ⟨rfl, rfl⟩) | (go_at_call 60; refine (l02Word_any _ _).mono ?_; rintro e w1 ⟨rfl, rfl⟩))
          go_ret
          exact ⟨by rw [e.out]; rfl, (HB _).out⟩
        · have hk' : (t.kind == 0) = false := beq_eq_false_iff_ne.2 hk
          have e : Hid (rightT t = false) := by unfold Hid rightT echoB; simp_all
          go_enter Tryz.func30, Tryz.ntmps30
          go_wp2_with (first | (go_at_call 59; refine (l02Addr_any _ _).mono ?_; rintro e w1 ⟨rfl, rfl⟩) | (go_at_call 60; refine (l02Word_any _ _).mono ?_; rintro e w1 ⟨rfl, rfl⟩))
          go_ret
          exact ⟨by rw [e.out]; rfl, (HB _).out⟩
      · have p17' : (t.proto == 17) = false := beq_eq_false_iff_ne.2 p17
        have e : Hid (rightT t = false) := by unfold Hid rightT echoB; simp_all
        go_enter Tryz.func30, Tryz.ntmps30
        go_wp2_with (first | (go_at_call 59; refine (l02Addr_any _ _).mono ?_; rintro e w1 ⟨rfl, rfl⟩) | (go_at_call 60; refine (l02Word_any _ _).mono ?_; rintro e w1 ⟨rfl, rfl⟩))
        go_ret
        exact ⟨by rw [e.out]; rfl, (HB _).out⟩
end Go.Proofs.YtedknnkdnccfmaaGreatDoor
end
