/- Proved here: spec.l02Addr and spec.PacketRight answer whether an address, a packet is right; all old memory stays (condition: the body is a string). · Proved here: small facts on a block of a call's own: its cells, what a store leaves (no program of its own). · Proved here: spec.ErrorOf answers the error that is told of a right packet, or why not; all old memory stays (condition: the body is a string). · Proved here: impl.partOf answers what stands behind a packet's head, by its Proto; all old memory stays (no conditions). · Proved here: impl.areWords answers whether all of a row are words, and leaves memory alone (condition: at most 1000 of them). · Proved here: impl.areAddrs answers whether all of a row are addresses, and leaves memory alone (condition: at most 1000 of them). -/
import Derived.Test.YthfhbmiddillbagDoorAll0
import Derived.Test.YthfhbmiddillbagDoorAll3
import Derived.Test.YthfhbmiddillbagDoorAll1
section
namespace Go.Proofs.YthfhbmiddillbagDoor
open Go.ChangeShapes Go.WideShapes Go.ChangeAt Go.RowKit
open Go.ChangeMaps (open_string shut_string)
set_option linter.unusedVariables false

theorem l02Addr_any (n : Int) (w : World) :
    Calls Tryd.prog 22 #[.int .i64 n] w fun e w' => e = .returned (.bool (addrB n)) ∧ w' = w := by
  go_enter Tryd.func22, Tryd.ntmps22
  go_wp2_with fail
  refine (l02Is_any n 0 4294967295 _).mono ?_
  rintro e w1 ⟨rfl, rfl⟩
  go_wp2
  go_ret
  exact ⟨rfl, rfl⟩

theorem l02Flag_any (n : Int) (w : World) :
    Calls Tryd.prog 38 #[.int .i64 n, .int .i64 0, .int .i64 63] w fun e w' => e = .returned (.bool (flagB n)) ∧ w' = w := l02Is_any n 0 63 w

set_option maxHeartbeats 4000000 in
theorem specRight_any (p : Pk) (w : World) (hs : p.body.size ≤ maxLen) :
    Calls Tryd.prog 21 #[.agg #[.int .i64 p.src, .int .i64 p.dst, .int .i64 p.proto, .int .i64 p.a, .int .i64 p.b, .int .i64 p.kind, .int .i64 p.flags, .int .i64 p.seq, .int .i64 p.ack, .string p.body]] w fun e w' => e = .returned (.bool (rightB p)) ∧ Below w.heap.size w w' := by
  have hs' : p.body.size ≤ 2 ^ 63 - 1 := hs
  have HB := fun o => hidS ((Below.refl w.heap.size w).alloc (Nat.le_refl _) o)
  cases h1 : addrB p.src
  · have e : Hid (rightB p = false) := by unfold Hid rightB tcpB udpB pingB; simp_all
    go_enter Tryd.func21, Tryd.ntmps21
    go_wp2_with (first | (go_at_call 22; refine (l02Addr_any _ _).mono ?_; rintro e w1 ⟨rfl, rfl⟩) | (go_at_call 37; refine (l02Word_any _ _).mono ?_; rintro e w1 ⟨rfl, rfl⟩) | (go_at_call 38; refine (l02Flag_any _ _).mono ?_; rintro e w1 ⟨rfl, rfl⟩))
    go_ret
    exact ⟨by rw [e.out]; rfl, (HB _).out⟩
  cases h2 : addrB p.dst
  · have e : Hid (rightB p = false) := by unfold Hid rightB tcpB udpB pingB; simp_all
    go_enter Tryd.func21, Tryd.ntmps21
    go_wp2_with (first | (go_at_call 22; refine (l02Addr_any _ _).mono ?_; rintro e w1 ⟨rfl, rfl⟩) | (go_at_call 37; refine (l02Word_any _ _).mono ?_; rintro e w1 ⟨rfl, rfl⟩) | (go_at_call 38; refine (l02Flag_any _ _).mono ?_; rintro e w1 ⟨rfl, rfl⟩))
    go_ret
    exact ⟨by rw [e.out]; rfl, (HB _).out⟩
  by_cases hz0 : p.body.size ≤ 100
  · by_cases p6 : p.proto = 6
    · have p6' : (p.proto == 6) = true := beq_iff_eq.2 p6
      cases ha : wordB p.a
      · have e : Hid (rightB p = false) := by unfold Hid rightB tcpB udpB pingB; simp_all
        go_enter Tryd.func21, Tryd.ntmps21
        go_wp2_with (first | (go_at_call 22; refine (l02Addr_any _ _).mono ?_; rintro e w1 ⟨rfl, rfl⟩) | (go_at_call 37; refine (l02Word_any _ _).mono ?_; rintro e w1 ⟨rfl, rfl⟩) | (go_at_call 38; refine (l02Flag_any _ _).mono ?_; rintro e w1 ⟨rfl, rfl⟩))
        go_ret
        exact ⟨by rw [e.out]; rfl, (HB _).out⟩
      cases hb : wordB p.b
      · have e : Hid (rightB p = false) := by unfold Hid rightB tcpB udpB pingB; simp_all
        go_enter Tryd.func21, Tryd.ntmps21
        go_wp2_with (first | (go_at_call 22; refine (l02Addr_any _ _).mono ?_; rintro e w1 ⟨rfl, rfl⟩) | (go_at_call 37; refine (l02Word_any _ _).mono ?_; rintro e w1 ⟨rfl, rfl⟩) | (go_at_call 38; refine (l02Flag_any _ _).mono ?_; rintro e w1 ⟨rfl, rfl⟩))
        go_ret
        exact ⟨by rw [e.out]; rfl, (HB _).out⟩
      by_cases hk : p.kind = 0
      · have hk' : (p.kind == 0) = true := beq_iff_eq.2 hk
        have hkn : (p.kind != 0) = false := by rw [bne, hk']; rfl
        cases hf : flagB p.flags
        · have e : Hid (rightB p = false) := by unfold Hid rightB tcpB udpB pingB; simp_all
          go_enter Tryd.func21, Tryd.ntmps21
          go_wp2_with (first | (go_at_call 22; refine (l02Addr_any _ _).mono ?_; rintro e w1 ⟨rfl, rfl⟩) | (go_at_call 37; refine (l02Word_any _ _).mono ?_; rintro e w1 ⟨rfl, rfl⟩) | (go_at_call 38; refine (l02Flag_any _ _).mono ?_; rintro e w1 ⟨rfl, rfl⟩))
          go_ret
          exact ⟨by rw [e.out]; rfl, (HB _).out⟩
        cases hq : addrB p.seq
        · have e : Hid (rightB p = false) := by unfold Hid rightB tcpB udpB pingB; simp_all
          go_enter Tryd.func21, Tryd.ntmps21
          go_wp2_with (first | (go_at_call 22; refine (l02Addr_any _ _).mono ?_; rintro e w1 ⟨rfl, rfl⟩) | (go_at_call 37; refine (l02Word_any _ _).mono ?_; rintro e w1 ⟨rfl, rfl⟩) | (go_at_call 38; refine (l02Flag_any _ _).mono ?_; rintro e w1 ⟨rfl, rfl⟩))
          go_ret
          exact ⟨by rw [e.out]; rfl, (HB _).out⟩
        cases hc : addrB p.ack
        · have e : Hid (rightB p = false) := by unfold Hid rightB tcpB udpB pingB; simp_all
          go_enter Tryd.func21, Tryd.ntmps21
          go_wp2_with (first | (go_at_call 22; refine (l02Addr_any _ _).mono ?_; rintro e w1 ⟨rfl, rfl⟩) | (go_at_call 37; refine (l02Word_any _ _).mono ?_; rintro e w1 ⟨rfl, rfl⟩) | (go_at_call 38; refine (l02Flag_any _ _).mono ?_; rintro e w1 ⟨rfl, rfl⟩))
          go_ret
          exact ⟨by rw [e.out]; rfl, (HB _).out⟩
        have e : Hid (rightB p = true) := by unfold Hid rightB tcpB udpB pingB; simp_all
        go_enter Tryd.func21, Tryd.ntmps21
        go_wp2_with (first | (go_at_call 22; refine (l02Addr_any _ _).mono ?_; rintro e w1 ⟨rfl, rfl⟩) | (go_at_call 37; refine (l02Word_any _ _).mono ?_; rintro e w1 ⟨rfl, rfl⟩) | (go_at_call 38; refine (l02Flag_any _ _).mono ?_; rintro e w1 ⟨rfl, rfl⟩))
        go_ret
        exact ⟨by rw [e.out]; rfl, (HB _).out⟩
      · have hk' : (p.kind == 0) = false := beq_eq_false_iff_ne.2 hk
        have hkn : (p.kind != 0) = true := by rw [bne, hk']; rfl
        have e : Hid (rightB p = false) := by unfold Hid rightB tcpB udpB pingB; simp_all
        go_enter Tryd.func21, Tryd.ntmps21
        go_wp2_with (first | (go_at_call 22; refine (l02Addr_any _ _).mono ?_; rintro e w1 ⟨rfl, rfl⟩) | (go_at_call 37; refine (l02Word_any _ _).mono ?_; rintro e w1 ⟨rfl, rfl⟩) | (go_at_call 38; refine (l02Flag_any _ _).mono ?_; rintro e w1 ⟨rfl, rfl⟩))
        go_ret
        exact ⟨by rw [e.out]; rfl, (HB _).out⟩
    · have p6' : (p.proto == 6) = false := beq_eq_false_iff_ne.2 p6
      by_cases p17 : p.proto = 17
      · have p17' : (p.proto == 17) = true := beq_iff_eq.2 p17
        cases ha : wordB p.a
        · have e : Hid (rightB p = false) := by unfold Hid rightB tcpB udpB pingB; simp_all
          go_enter Tryd.func21, Tryd.ntmps21
          go_wp2_with (first | (go_at_call 22; refine (l02Addr_any _ _).mono ?_; rintro e w1 ⟨rfl, rfl⟩) | (go_at_call 37; refine (l02Word_any _ _).mono ?_; rintro e w1 ⟨rfl, rfl⟩) | (go_at_call 38; refine (l02Flag_any _ _).mono ?_; rintro e w1 ⟨rfl, rfl⟩))
          go_ret
          exact ⟨by rw [e.out]; rfl, (HB _).out⟩
        cases hb : wordB p.b
        · have e : Hid (rightB p = false) := by unfold Hid rightB tcpB udpB pingB; simp_all
          go_enter Tryd.func21, Tryd.ntmps21
          go_wp2_with (first | (go_at_call 22; refine (l02Addr_any _ _).mono ?_; rintro e w1 ⟨rfl, rfl⟩) | (go_at_call 37; refine (l02Word_any _ _).mono ?_; rintro e w1 ⟨rfl, rfl⟩) | (go_at_call 38; refine (l02Flag_any _ _).mono ?_; rintro e w1 ⟨rfl, rfl⟩))
          go_ret
          exact ⟨by rw [e.out]; rfl, (HB _).out⟩
        by_cases hk : p.kind = 0
        · have hk' : (p.kind == 0) = true := beq_iff_eq.2 hk
          have hkn : (p.kind != 0) = false := by rw [bne, hk']; rfl
          by_cases hf : p.flags = 0
          · have hf' : (p.flags == 0) = true := beq_iff_eq.2 hf
            have hfn : (p.flags != 0) = false := by rw [bne, hf']; rfl
            by_cases hq : p.seq = 0
            · have hq' : (p.seq == 0) = true := beq_iff_eq.2 hq
              have hqn : (p.seq != 0) = false := by rw [bne, hq']; rfl
              by_cases hc : p.ack = 0
              · have hc' : (p.ack == 0) = true := beq_iff_eq.2 hc
                have hcn : (p.ack != 0) = false := by rw [bne, hc']; rfl
                have e : Hid (rightB p = true) := by unfold Hid rightB tcpB udpB pingB; simp_all
                go_enter Tryd.func21, Tryd.ntmps21
                go_wp2_with (first | (go_at_call 22; refine (l02Addr_any _ _).mono ?_; rintro e w1 ⟨rfl, rfl⟩) | (go_at_call 37; refine (l02Word_any _ _).mono ?_; rintro e w1 ⟨rfl, rfl⟩) | (go_at_call 38; refine (l02Flag_any _ _).mono ?_; rintro e w1 ⟨rfl, rfl⟩))
                go_ret
                exact ⟨by rw [e.out]; rfl, (HB _).out⟩
              · have hc' : (p.ack == 0) = false := beq_eq_false_iff_ne.2 hc
                have hcn : (p.ack != 0) = true := by rw [bne, hc']; rfl
                have e : Hid (rightB p = false) := by unfold Hid rightB tcpB udpB pingB; simp_all
                go_enter Tryd.func21, Tryd.ntmps21
                go_wp2_with (first | (go_at_call 22; refine (l02Addr_any _ _).mono ?_; rintro e w1 ⟨rfl, rfl⟩) | (go_at_call 37; refine (l02Word_any _ _).mono ?_; rintro e w1 ⟨rfl, rfl⟩) | (go_at_call 38; refine (l02Flag_any _ _).mono ?_; rintro e w1 ⟨rfl, rfl⟩))
                go_ret
                exact ⟨by rw [e.out]; rfl, (HB _).out⟩
            · have hq' : (p.seq == 0) = false := beq_eq_false_iff_ne.2 hq
              have hqn : (p.seq != 0) = true := by rw [bne, hq']; rfl
              have e : Hid (rightB p = false) := by unfold Hid rightB tcpB udpB pingB; simp_all
              go_enter Tryd.func21, Tryd.ntmps21
              go_wp2_with (first | (go_at_call 22; refine (l02Addr_any _ _).mono ?_; rintro e w1 ⟨rfl, rfl⟩) | (go_at_call 37; refine (l02Word_any _ _).mono ?_; rintro e w1 ⟨rfl, rfl⟩) | (go_at_call 38; refine (l02Flag_any _ _).mono ?_; rintro e w1 ⟨rfl, rfl⟩))
              go_ret
              exact ⟨by rw [e.out]; rfl, (HB _).out⟩
          · have hf' : (p.flags == 0) = false := beq_eq_false_iff_ne.2 hf
            have hfn : (p.flags != 0) = true := by rw [bne, hf']; rfl
            have e : Hid (rightB p = false) := by unfold Hid rightB tcpB udpB pingB; simp_all
            go_enter Tryd.func21, Tryd.ntmps21
            go_wp2_with (first | (go_at_call 22; refine (l02Addr_any _ _).mono ?_; rintro e w1 ⟨rfl, rfl⟩) | (go_at_call 37; refine (l02Word_any _ _).mono ?_; rintro e w1 ⟨rfl, rfl⟩) | (go_at_call 38; refine (l02Flag_any _ _).mono ?_; rintro e w1 ⟨rfl, rfl⟩))
            go_ret
            exact ⟨by rw [e.out]; rfl, (HB _).out⟩
        · have hk' : (p.kind == 0) = false := beq_eq_false_iff_ne.2 hk
          have hkn : (p.kind != 0) = true := by rw [bne, hk']; rfl
          have e : Hid (rightB p = false) := by unfold Hid rightB tcpB udpB pingB; simp_all
          go_enter Tryd.func21, Tryd.ntmps21
          go_wp2_with (first | (go_at_call 22; refine (l02Addr_any _ _).mono ?_; rintro e w1 ⟨rfl, rfl⟩) | (go_at_call 37; refine (l02Word_any _ _).mono ?_; rintro e w1 ⟨rfl, rfl⟩) | (go_at_call 38; refine (l02Flag_any _ _).mono ?_; rintro e w1 ⟨rfl, rfl⟩))
          go_ret
          exact ⟨by rw [e.out]; rfl, (HB _).out⟩
      · have p17' : (p.proto == 17) = false := beq_eq_false_iff_ne.2 p17
        by_cases p1 : p.proto = 1
        · have p1' : (p.proto == 1) = true := beq_iff_eq.2 p1
          by_cases hb : p.b = 0
          · have hb' : (p.b == 0) = true := beq_iff_eq.2 hb
            have hbn : (p.b != 0) = false := by rw [bne, hb']; rfl
            by_cases hf : p.flags = 0
            · have hf' : (p.flags == 0) = true := beq_iff_eq.2 hf
              have hfn : (p.flags != 0) = false := by rw [bne, hf']; rfl
              by_cases hc : p.ack = 0
              · have hc' : (p.ack == 0) = true := beq_iff_eq.2 hc
                have hcn : (p.ack != 0) = false := by rw [bne, hc']; rfl
                by_cases h3 : p.kind = 3
                · have h3' : (p.kind == 3) = true := beq_iff_eq.2 h3
                  by_cases ha : p.a = 0
                  · have ha' : (p.a == 0) = true := beq_iff_eq.2 ha
                    have han : (p.a != 0) = false := by rw [bne, ha']; rfl
                    by_cases hq : p.seq = 0
                    · have hq' : (p.seq == 0) = true := beq_iff_eq.2 hq
                      have hqn : (p.seq != 0) = false := by rw [bne, hq']; rfl
                      by_cases hz : 28 ≤ p.body.size
                      · have hzd : decide ((28 : Int) ≤ (p.body.size : Int)) = true := by simp; omega
                        have e : Hid (rightB p = true) := by unfold Hid rightB tcpB udpB pingB; simp_all
                        go_enter Tryd.func21, Tryd.ntmps21
                        go_wp2_with (first | (go_at_call 22; refine (l02Addr_any _ _).mono ?_; rintro e w1 ⟨rfl, rfl⟩) | (go_at_call 37; refine (l02Word_any _ _).mono ?_; rintro e w1 ⟨rfl, rfl⟩) | (go_at_call 38; refine (l02Flag_any _ _).mono ?_; rintro e w1 ⟨rfl, rfl⟩))
                        go_ret
                        exact ⟨by rw [e.out]; rfl, (HB _).out⟩
                      · have hzd : decide ((28 : Int) ≤ (p.body.size : Int)) = false := by simp; omega
                        have e : Hid (rightB p = false) := by unfold Hid rightB tcpB udpB pingB; simp_all
                        go_enter Tryd.func21, Tryd.ntmps21
                        go_wp2_with (first | (go_at_call 22; refine (l02Addr_any _ _).mono ?_; rintro e w1 ⟨rfl, rfl⟩) | (go_at_call 37; refine (l02Word_any _ _).mono ?_; rintro e w1 ⟨rfl, rfl⟩) | (go_at_call 38; refine (l02Flag_any _ _).mono ?_; rintro e w1 ⟨rfl, rfl⟩))
                        go_ret
                        exact ⟨by rw [e.out]; rfl, (HB _).out⟩
                    · have hq' : (p.seq == 0) = false := beq_eq_false_iff_ne.2 hq
                      have hqn : (p.seq != 0) = true := by rw [bne, hq']; rfl
                      have e : Hid (rightB p = false) := by unfold Hid rightB tcpB udpB pingB; simp_all
                      go_enter Tryd.func21, Tryd.ntmps21
                      go_wp2_with (first | (go_at_call 22; refine (l02Addr_any _ _).mono ?_; rintro e w1 ⟨rfl, rfl⟩) | (go_at_call 37; refine (l02Word_any _ _).mono ?_; rintro e w1 ⟨rfl, rfl⟩) | (go_at_call 38; refine (l02Flag_any _ _).mono ?_; rintro e w1 ⟨rfl, rfl⟩))
                      go_ret
                      exact ⟨by rw [e.out]; rfl, (HB _).out⟩
                  · have ha' : (p.a == 0) = false := beq_eq_false_iff_ne.2 ha
                    have han : (p.a != 0) = true := by rw [bne, ha']; rfl
                    have e : Hid (rightB p = false) := by unfold Hid rightB tcpB udpB pingB; simp_all
                    go_enter Tryd.func21, Tryd.ntmps21
                    go_wp2_with (first | (go_at_call 22; refine (l02Addr_any _ _).mono ?_; rintro e w1 ⟨rfl, rfl⟩) | (go_at_call 37; refine (l02Word_any _ _).mono ?_; rintro e w1 ⟨rfl, rfl⟩) | (go_at_call 38; refine (l02Flag_any _ _).mono ?_; rintro e w1 ⟨rfl, rfl⟩))
                    go_ret
                    exact ⟨by rw [e.out]; rfl, (HB _).out⟩
                · have h3' : (p.kind == 3) = false := beq_eq_false_iff_ne.2 h3
                  by_cases h8 : p.kind = 8
                  · have h8' : (p.kind == 8) = true := beq_iff_eq.2 h8
                    cases ha : wordB p.a
                    · have e : Hid (rightB p = false) := by unfold Hid rightB tcpB udpB pingB; simp_all
                      go_enter Tryd.func21, Tryd.ntmps21
                      go_wp2_with (first | (go_at_call 22; refine (l02Addr_any _ _).mono ?_; rintro e w1 ⟨rfl, rfl⟩) | (go_at_call 37; refine (l02Word_any _ _).mono ?_; rintro e w1 ⟨rfl, rfl⟩) | (go_at_call 38; refine (l02Flag_any _ _).mono ?_; rintro e w1 ⟨rfl, rfl⟩))
                      go_ret
                      exact ⟨by rw [e.out]; rfl, (HB _).out⟩
                    cases hq : wordB p.seq
                    · have e : Hid (rightB p = false) := by unfold Hid rightB tcpB udpB pingB; simp_all
                      go_enter Tryd.func21, Tryd.ntmps21
                      go_wp2_with (first | (go_at_call 22; refine (l02Addr_any _ _).mono ?_; rintro e w1 ⟨rfl, rfl⟩) | (go_at_call 37; refine (l02Word_any _ _).mono ?_; rintro e w1 ⟨rfl, rfl⟩) | (go_at_call 38; refine (l02Flag_any _ _).mono ?_; rintro e w1 ⟨rfl, rfl⟩))
                      go_ret
                      exact ⟨by rw [e.out]; rfl, (HB _).out⟩
                    have e : Hid (rightB p = true) := by unfold Hid rightB tcpB udpB pingB; simp_all
                    go_enter Tryd.func21, Tryd.ntmps21
                    go_wp2_with (first | (go_at_call 22; refine (l02Addr_any _ _).mono ?_; rintro e w1 ⟨rfl, rfl⟩) | (go_at_call 37; refine (l02Word_any _ _).mono ?_; rintro e w1 ⟨rfl, rfl⟩) | (go_at_call 38; refine (l02Flag_any _ _).mono ?_; rintro e w1 ⟨rfl, rfl⟩))
                    go_ret
                    exact ⟨by rw [e.out]; rfl, (HB _).out⟩
                  · have h8' : (p.kind == 8) = false := beq_eq_false_iff_ne.2 h8
                    by_cases h0 : p.kind = 0
                    · have h0' : (p.kind == 0) = true := beq_iff_eq.2 h0
                      have h0n : (p.kind != 0) = false := by rw [bne, h0']; rfl
                      cases ha : wordB p.a
                      · have e : Hid (rightB p = false) := by unfold Hid rightB tcpB udpB pingB; simp_all
                        go_enter Tryd.func21, Tryd.ntmps21
                        go_wp2_with (first | (go_at_call 22; refine (l02Addr_any _ _).mono ?_; rintro e w1 ⟨rfl, rfl⟩) | (go_at_call 37; refine (l02Word_any _ _).mono ?_; rintro e w1 ⟨rfl, rfl⟩) | (go_at_call 38; refine (l02Flag_any _ _).mono ?_; rintro e w1 ⟨rfl, rfl⟩))
                        go_ret
                        exact ⟨by rw [e.out]; rfl, (HB _).out⟩
                      cases hq : wordB p.seq
                      · have e : Hid (rightB p = false) := by unfold Hid rightB tcpB udpB pingB; simp_all
                        go_enter Tryd.func21, Tryd.ntmps21
                        go_wp2_with (first | (go_at_call 22; refine (l02Addr_any _ _).mono ?_; rintro e w1 ⟨rfl, rfl⟩) | (go_at_call 37; refine (l02Word_any _ _).mono ?_; rintro e w1 ⟨rfl, rfl⟩) | (go_at_call 38; refine (l02Flag_any _ _).mono ?_; rintro e w1 ⟨rfl, rfl⟩))
                        go_ret
                        exact ⟨by rw [e.out]; rfl, (HB _).out⟩
                      have e : Hid (rightB p = true) := by unfold Hid rightB tcpB udpB pingB; simp_all
                      go_enter Tryd.func21, Tryd.ntmps21
                      go_wp2_with (first | (go_at_call 22; refine (l02Addr_any _ _).mono ?_; rintro e w1 ⟨rfl, rfl⟩) | (go_at_call 37; refine (l02Word_any _ _).mono ?_; rintro e w1 ⟨rfl, rfl⟩) | (go_at_call 38; refine (l02Flag_any _ _).mono ?_; rintro e w1 ⟨rfl, rfl⟩))
                      go_ret
                      exact ⟨by rw [e.out]; rfl, (HB _).out⟩
                    · have h0' : (p.kind == 0) = false := beq_eq_false_iff_ne.2 h0
                      have h0n : (p.kind != 0) = true := by rw [bne, h0']; rfl
                      have e : Hid (rightB p = false) := by unfold Hid rightB tcpB udpB pingB; simp_all
                      go_enter Tryd.func21, Tryd.ntmps21
                      go_wp2_with (first | (go_at_call 22; refine (l02Addr_any _ _).mono ?_; rintro e w1 ⟨rfl, rfl⟩) | (go_at_call 37; refine (l02Word_any _ _).mono ?_; rintro e w1 ⟨rfl, rfl⟩) | (go_at_call 38; refine (l02Flag_any _ _).mono ?_; rintro e w1 ⟨rfl, rfl⟩))
                      go_ret
                      exact ⟨by rw [e.out]; rfl, (HB _).out⟩
              · have hc' : (p.ack == 0) = false := beq_eq_false_iff_ne.2 hc
                have hcn : (p.ack != 0) = true := by rw [bne, hc']; rfl
                have e : Hid (rightB p = false) := by unfold Hid rightB tcpB udpB pingB; simp_all
                go_enter Tryd.func21, Tryd.ntmps21
                go_wp2_with (first | (go_at_call 22; refine (l02Addr_any _ _).mono ?_; rintro e w1 ⟨rfl, rfl⟩) | (go_at_call 37; refine (l02Word_any _ _).mono ?_; rintro e w1 ⟨rfl, rfl⟩) | (go_at_call 38; refine (l02Flag_any _ _).mono ?_; rintro e w1 ⟨rfl, rfl⟩))
                go_ret
                exact ⟨by rw [e.out]; rfl, (HB _).out⟩
            · have hf' : (p.flags == 0) = false := beq_eq_false_iff_ne.2 hf
              have hfn : (p.flags != 0) = true := by rw [bne, hf']; rfl
              have e : Hid (rightB p = false) := by unfold Hid rightB tcpB udpB pingB; simp_all
              go_enter Tryd.func21, Tryd.ntmps21
              go_wp2_with (first | (go_at_call 22; refine (l02Addr_any _ _).mono ?_; rintro e w1 ⟨rfl, rfl⟩) | (go_at_call 37; refine (l02Word_any _ _).mono ?_; rintro e w1 ⟨rfl, rfl⟩) | (go_at_call 38; refine (l02Flag_any _ _).mono ?_; rintro e w1 ⟨rfl, rfl⟩))
              go_ret
              exact ⟨by rw [e.out]; rfl, (HB _).out⟩
          · have hb' : (p.b == 0) = false := beq_eq_false_iff_ne.2 hb
            have hbn : (p.b != 0) = true := by rw [bne, hb']; rfl
            have e : Hid (rightB p = false) := by unfold Hid rightB tcpB udpB pingB; simp_all
            go_enter Tryd.func21, Tryd.ntmps21
            go_wp2_with (first | (go_at_call 22; refine (l02Addr_any _ _).mono ?_; rintro e w1 ⟨rfl, rfl⟩) | (go_at_call 37; refine (l02Word_any _ _).mono ?_; rintro e w1 ⟨rfl, rfl⟩) | (go_at_call 38; refine (l02Flag_any _ _).mono ?_; rintro e w1 ⟨rfl, rfl⟩))
            go_ret
            exact ⟨by rw [e.out]; rfl, (HB _).out⟩
        · have p1' : (p.proto == 1) = false := beq_eq_false_iff_ne.2 p1
          have e : Hid (rightB p = false) := by unfold Hid rightB tcpB udpB pingB; simp_all
          go_enter Tryd.func21, Tryd.ntmps21
          go_wp2_with (first | (go_at_call 22; refine (l02Addr_any _ _).mono ?_; rintro e w1 ⟨rfl, rfl⟩) | (go_at_call 37; refine (l02Word_any _ _).mono ?_; rintro e w1 ⟨rfl, rfl⟩) | (go_at_call 38; refine (l02Flag_any _ _).mono ?_; rintro e w1 ⟨rfl, rfl⟩))
          go_ret
          exact ⟨by rw [e.out]; rfl, (HB _).out⟩
  · have e : Hid (rightB p = false) := by unfold Hid rightB; rw [show decide (p.body.size ≤ 100) = false from by simp; omega]; simp
    go_enter Tryd.func21, Tryd.ntmps21
    go_wp2_with (first | (go_at_call 22; refine (l02Addr_any _ _).mono ?_; rintro e w1 ⟨rfl, rfl⟩) | (go_at_call 37; refine (l02Word_any _ _).mono ?_; rintro e w1 ⟨rfl, rfl⟩) | (go_at_call 38; refine (l02Flag_any _ _).mono ?_; rintro e w1 ⟨rfl, rfl⟩))
    go_ret
    exact ⟨by rw [e.out]; rfl, (HB _).out⟩
end Go.Proofs.YthfhbmiddillbagDoor
end

section
namespace Go.Proofs.YthfhbmiddillbagDoor
open Go.ChangeShapes Go.WideShapes Go.ChangeAt Go.RowKit
set_option linter.unusedVariables false

/-- a block's cells, and that they may be written -/
theorem blk_cell {W : World} {B : Nat} {cs : Array Value} {t : TypeId} (h : W.heap[B]? = some (.cells cs t)) (k : Nat) : W.cell? ⟨B, k, none⟩ = cs[k]? := by simp [World.cell?, h]
theorem blk_free {W : World} {B : Nat} {cs : Array Value} {t : TypeId} (h : W.heap[B]? = some (.cells cs t)) (k : Nat) : W.frozen? ⟨B, k, none⟩ = false := by simp [World.frozen?, h]
theorem blk_lt {W : World} {B : Nat} {o : Obj} (h : W.heap[B]? = some o) : B < W.heap.size := (Array.getElem?_eq_some_iff.1 h).1
theorem blk_later {W W' : World} {B : Nat} {o : Obj} (h : W.heap[B]? = some o) (hb : Below W.heap.size W W') : W'.heap[B]? = some o := (hb.block B (blk_lt h)).trans h
/-- one cell is written -/
theorem blk_set {W : World} {B : Nat} {cs : Array Value} {t : TypeId} (h : W.heap[B]? = some (.cells cs t)) (k : Nat) (v : Value) : (W.setCell ⟨B, k, none⟩ v).heap[B]? = some (.cells (cs.setIfInBounds k v) t) := heap_setCell_same W B k cs t v h
theorem blk_other {W : World} {B g : Nat} {o : Obj} (h : W.heap[g]? = some o) (hne : g ≠ B) (k : Nat) (v : Value) : (W.setCell ⟨B, k, none⟩ v).heap[g]? = some o := (Below.heap_setCell W ⟨B, k, none⟩ v g hne).trans h

theorem below_at {B b k : Nat} {a w : World} {v : Value} (h : Below B a w) (hb : B ≤ b) : Below B a (w.setCell ⟨b, k, none⟩ v) := h.setCell hb v
theorem blk_alloc {W : World} {g : Nat} {o : Obj} (h : W.heap[g]? = some o) (o2 : Obj) : (W.alloc o2).heap[g]? = some o := (Below.heap_alloc W o2 g (blk_lt h)).trans h
end Go.Proofs.YthfhbmiddillbagDoor
end

section
namespace Go.Proofs.YthfhbmiddillbagDoor
open Go.ChangeShapes Go.WideShapes Go.ChangeAt Go.RowKit
set_option linter.unusedVariables false
set_option maxRecDepth 100000
set_option linter.unusedSimpArgs false

theorem bytesOf_28 {p : Pk} (h : Fine p) : 28 ≤ (bytesOf p).size := by
  have hz : (bytesOf p).size = 20 + (tailT p (checkT p).toNat).size := by unfold bytesOf; rw [ByteArray.size_append, headT_size]
  rw [hz]
  generalize (checkT p).toNat = c
  have h2 : (⟨#[0, 0]⟩ : ByteArray).size = 2 := rfl
  unfold tailT
  split
  · simp only [ByteArray.size_append, twoT_size, fourT_size, rowT_size, List.length_cons, List.length_nil, h2]; omega
  · split
    · simp only [ByteArray.size_append, twoT_size]; omega
    · split <;> simp only [ByteArray.size_append, twoT_size, rowT_size, List.length_cons, List.length_nil] <;> omega
/-- is it one of whom an error may be told? -/
def errB (p : Pk) (from_ : Int) : Bool := rightB p && !(p.proto == 1 && p.kind == 3) && addrB from_
def errP (p : Pk) (from_ : Int) : Pk := if errB p from_ = true then ⟨from_, p.src, 1, 0, 0, 3, 0, 0, 0, (bytesOf p).extract 0 28⟩ else zeroPk
def errC (p : Pk) (from_ : Int) : Int := if errB p from_ = true then 0 else 1

set_option maxHeartbeats 2000000 in
theorem specError_any (p : Pk) (f : Int) (w : World) (hs : p.body.size ≤ maxLen) :
    Calls Tryd.prog 10 #[.agg #[.int .i64 p.src, .int .i64 p.dst, .int .i64 p.proto, .int .i64 p.a, .int .i64 p.b, .int .i64 p.kind, .int .i64 p.flags, .int .i64 p.seq, .int .i64 p.ack, .string p.body], .int .i64 f] w fun e w' => e = .returned (.agg #[.int .i64 (errP p f).src, .int .i64 (errP p f).dst, .int .i64 (errP p f).proto, .int .i64 (errP p f).a, .int .i64 (errP p f).b, .int .i64 (errP p f).kind, .int .i64 (errP p f).flags, .int .i64 (errP p f).seq, .int .i64 (errP p f).ack, .string (errP p f).body, .int .i64 (errC p f)]) ∧ Below w.heap.size w w' := by
  have HP := hidS ((PkAt.new p w).later ((Below.refl _ _).alloc (Nat.le_refl _) (.cells #[.int .i64 0, .int .i64 0, .int .i64 0, .int .i64 0, .int .i64 0, .int .i64 0, .int .i64 0, .int .i64 0, .int .i64 0, .string ⟨#[]⟩, .int .i64 0] 32)))
  have hG : ((w.alloc (.cells #[.int .i64 p.src, .int .i64 p.dst, .int .i64 p.proto, .int .i64 p.a, .int .i64 p.b, .int .i64 p.kind, .int .i64 p.flags, .int .i64 p.seq, .int .i64 p.ack, .string p.body] 30)).alloc (.cells #[.int .i64 0, .int .i64 0, .int .i64 0, .int .i64 0, .int .i64 0, .int .i64 0, .int .i64 0, .int .i64 0, .int .i64 0, .string ⟨#[]⟩, .int .i64 0] 32)).heap[w.heap.size + 1]? = some (.cells #[.int .i64 0, .int .i64 0, .int .i64 0, .int .i64 0, .int .i64 0, .int .i64 0, .int .i64 0, .int .i64 0, .int .i64 0, .string ⟨#[]⟩, .int .i64 0] 32) := by
    have := heap_newG (w.alloc (.cells #[.int .i64 p.src, .int .i64 p.dst, .int .i64 p.proto, .int .i64 p.a, .int .i64 p.b, .int .i64 p.kind, .int .i64 p.flags, .int .i64 p.seq, .int .i64 p.ack, .string p.body] 30)) (.cells #[.int .i64 0, .int .i64 0, .int .i64 0, .int .i64 0, .int .i64 0, .int .i64 0, .int .i64 0, .int .i64 0, .int .i64 0, .string ⟨#[]⟩, .int .i64 0] 32)
    simpa using this
  have hL := hidS (((Below.refl w.heap.size w).alloc (Nat.le_refl _) (.cells #[.int .i64 p.src, .int .i64 p.dst, .int .i64 p.proto, .int .i64 p.a, .int .i64 p.b, .int .i64 p.kind, .int .i64 p.flags, .int .i64 p.seq, .int .i64 p.ack, .string p.body] 30)).alloc (by simp) (.cells #[.int .i64 0, .int .i64 0, .int .i64 0, .int .i64 0, .int .i64 0, .int .i64 0, .int .i64 0, .int .i64 0, .int .i64 0, .string ⟨#[]⟩, .int .i64 0] 32))
  go_enter Tryd.func10, Tryd.ntmps10
  go_wp2_with fail
  generalize (w.alloc (.cells #[.int .i64 p.src, .int .i64 p.dst, .int .i64 p.proto, .int .i64 p.a, .int .i64 p.b, .int .i64 p.kind, .int .i64 p.flags, .int .i64 p.seq, .int .i64 p.ack, .string p.body] 30)).alloc (.cells #[.int .i64 0, .int .i64 0, .int .i64 0, .int .i64 0, .int .i64 0, .int .i64 0, .int .i64 0, .int .i64 0, .int .i64 0, .string ⟨#[]⟩, .int .i64 0] 32) = w1 at HP hG hL ⊢
  refine (specRight_any p _ hs).mono ?_
  rintro _ w2 ⟨rfl, hb2⟩
  have HP2 := HP.out.later hb2
  have hG2 := blk_later hG hb2
  have hL2 := hidS (hL.out.trans (hb2.mono hL.out.size))
  clear HP hG hL hb2
  have H2 := hidS HP2
  obtain ⟨c0, c1, c2, c3, c4, c5, c6, c7, c8, c9⟩ := HP2
  have g0 := blk_cell hG2
  have gf := blk_free hG2
  cases hr : rightB p
  · clear c0 c1 c2 c3 c4 c5 c6 c7 c8 c9
    have eb : errB p f = false := by unfold errB; rw [hr]; rfl
    have e1 : Hid (errC p f = 1) := if_neg (by rw [eb]; simp)
    have e2 : Hid (errP p f = zeroPk) := if_neg (by rw [eb]; simp)
    clear eb
    go_wp2
    refine bodyPost_ret (v := .agg #[.int .i64 0, .int .i64 0, .int .i64 0, .int .i64 0, .int .i64 0, .int .i64 0, .int .i64 0, .int .i64 0, .int .i64 0, .string ⟨#[]⟩, .int .i64 1]) (by simp [results, Tryd.results10, go_sem, g0]) rfl ⟨by rw [e1.out, e2.out]; rfl, ?_⟩
    iterate 11 (refine below_at ?_ (Nat.le_succ _))
    exact hL2.out
  · by_cases h1 : p.proto = 1
    · have h1' : (p.proto == 1) = true := beq_iff_eq.2 h1
      by_cases h3 : p.kind = 3
      · have h3' : (p.kind == 3) = true := beq_iff_eq.2 h3
        clear h1 h3
        have eb : errB p f = false := by unfold errB; rw [hr, h1', h3']; rfl
        have e1 : Hid (errC p f = 1) := if_neg (by rw [eb]; simp)
        have e2 : Hid (errP p f = zeroPk) := if_neg (by rw [eb]; simp)
        clear eb
        go_wp2
        refine bodyPost_ret (v := .agg #[.int .i64 0, .int .i64 0, .int .i64 0, .int .i64 0, .int .i64 0, .int .i64 0, .int .i64 0, .int .i64 0, .int .i64 0, .string ⟨#[]⟩, .int .i64 1]) (by simp [results, Tryd.results10, go_sem, g0]) rfl ⟨by rw [e1.out, e2.out]; rfl, ?_⟩
        iterate 11 (refine below_at ?_ (Nat.le_succ _))
        exact hL2.out
      · have h3' : (p.kind == 3) = false := beq_eq_false_iff_ne.2 h3
        clear h1 h3
        go_wp2_with fail
        refine (l02Addr_any _ _).mono ?_
        rintro _ w3 ⟨rfl, rfl⟩
        cases hf : addrB f
        · have eb : errB p f = false := by unfold errB; rw [hr, h1', h3', hf]; rfl
          have e1 : Hid (errC p f = 1) := if_neg (by rw [eb]; simp)
          have e2 : Hid (errP p f = zeroPk) := if_neg (by rw [eb]; simp)
          clear eb
          go_wp2
          refine bodyPost_ret (v := .agg #[.int .i64 0, .int .i64 0, .int .i64 0, .int .i64 0, .int .i64 0, .int .i64 0, .int .i64 0, .int .i64 0, .int .i64 0, .string ⟨#[]⟩, .int .i64 1]) (by simp [results, Tryd.results10, go_sem, g0]) rfl ⟨by rw [e1.out, e2.out]; rfl, ?_⟩
          iterate 11 (refine below_at ?_ (Nat.le_succ _))
          exact hL2.out
        · have eb : errB p f = true := by unfold errB; rw [hr, h1', h3', hf]; rfl
          have e1 : Hid (errC p f = 0) := if_pos eb
          have e2 : Hid (errP p f = ⟨f, p.src, 1, 0, 0, 3, 0, 0, 0, (bytesOf p).extract 0 28⟩) := if_pos eb
          clear eb
          have hF := hidS (fine_of hr)
          have h28 : 28 ≤ (bytesOf p).size := bytesOf_28 hF.out
          have h28i : (28 : Int) ≤ ((bytesOf p).size : Int) := by omega
          have HP := H2
          go_wp2_with fail
          refine grow_into 8 _ [.is (.int .i64 f), .is (.pointer (some ⟨w.heap.size, 0, none⟩)), .is (.int .i64 p.src), .is (.agg #[.int .i64 p.src, .int .i64 p.dst, .int .i64 p.proto, .int .i64 p.a, .int .i64 p.b, .int .i64 p.kind, .int .i64 p.flags, .int .i64 p.seq, .int .i64 p.ack, .string p.body]), .is (.string (bytesOf p)), .is (.string ((bytesOf p).extract 0 28)), .is (.agg #[.int .i64 f, .int .i64 p.src, .int .i64 1, .int .i64 0, .int .i64 0, .int .i64 3, .int .i64 0, .int .i64 0, .int .i64 0, .string ((bytesOf p).extract 0 28)]), .is (.agg #[.int .i64 f, .int .i64 p.src, .int .i64 1, .int .i64 0, .int .i64 0, .int .i64 3, .int .i64 0, .int .i64 0, .int .i64 0, .string ((bytesOf p).extract 0 28), .int .i64 0])] 7 4 31 32 32 (w.heap.size + 1) #[.int .i64 0, .int .i64 0, .int .i64 0, .int .i64 0, .int .i64 0, .int .i64 0, .int .i64 0, .int .i64 0, .int .i64 0, .string ⟨#[]⟩, .int .i64 0] #[.int .i64 f, .int .i64 p.src, .int .i64 1, .int .i64 0, .int .i64 0, .int .i64 3, .int .i64 0, .int .i64 0, .int .i64 0, .string ((bytesOf p).extract 0 28), .int .i64 0] rfl rfl rfl (by kernel_rfl) (by kernel_rfl) (by kernel_rfl) rfl rfl (by decide) (by kernel_rfl) (by kernel_rfl) (by decide) hG2 (by kernel_rfl) (by kernel_rfl) (by first | kernel_rfl | simp [Value.oneCell']) (by kernel_rfl) ?steps ?fin
          case steps =>
            refine ⟨?_, ?_, ?_, ?_, ?_, ?_, ?_, ?_, trivial⟩
            · refine ⟨rfl, fun v W ρ hC kc kf ks ki kd => ?_⟩
              have t1 : ρ (.tmp 1) = .int .i64 f := ki 1 (by decide)
              simp [execOp, go_sem, t1]
              exact ⟨hC, Below.refl _ _, rfl⟩
            · refine ⟨rfl, fun v W ρ hC kc kf ks ki kd => ?_⟩
              have t2 : ρ (.tmp 2) = .pointer (some ⟨w.heap.size, 0, none⟩) := ki 2 (by decide)
              simp [execOp, go_sem, t2]
              exact ⟨hC, Below.refl _ _, rfl⟩
            · refine ⟨rfl, fun v W ρ hC kc kf ks ki kd => ?_⟩
              have d1 : v 1 = .pointer (some ⟨w.heap.size, 0, none⟩) := kd _ (Array.mem_of_getElem? (i := 0) rfl) rfl
              have t25 : ρ (.tmp 25) = v 1 := ks 1 25 (by decide) rfl
              rw [d1] at t25
              have hp := HP.out.later hC
              obtain ⟨c0, c1, c2, c3, c4, c5, c6, c7, c8, c9⟩ := hp
              simp [execOp, go_sem, t25, c0]
              exact ⟨hC, Below.refl _ _, rfl⟩
            · refine ⟨rfl, fun v W ρ hC kc kf ks ki kd => ?_⟩
              have t2 : ρ (.tmp 2) = .pointer (some ⟨w.heap.size, 0, none⟩) := ki 2 (by decide)
              have hp := HP.out.later hC
              obtain ⟨c0, c1, c2, c3, c4, c5, c6, c7, c8, c9⟩ := hp
              simp [execOp, go_sem, t2, c0, c1, c2, c3, c4, c5, c6, c7, c8, c9]
              exact ⟨hC, Below.refl _ _, rfl⟩
            · refine ⟨rfl, fun v W ρ hC kc kf ks ki kd => ?_⟩
              have d3 : v 3 = .agg #[.int .i64 p.src, .int .i64 p.dst, .int .i64 p.proto, .int .i64 p.a, .int .i64 p.b, .int .i64 p.kind, .int .i64 p.flags, .int .i64 p.seq, .int .i64 p.ack, .string p.body] := kd _ (Array.mem_of_getElem? (i := 0) rfl) rfl
              have t27 : ρ (.tmp 27) = v 3 := ks 3 27 (by decide) rfl
              rw [d3] at t27
              simp [execOp, go_sem, t27, kf]
              exact Calls.mono (l03Bytes_any p _ hF.out) (fun e x h => ⟨_, h.1, hC.trans (h.2.mono hC.size), h.2, rfl⟩)
            · refine ⟨rfl, fun v W ρ hC kc kf ks ki kd => ?_⟩
              have d4 : v 4 = .string (bytesOf p) := kd _ (Array.mem_of_getElem? (i := 0) rfl) rfl
              have t28 : ρ (.tmp 28) = v 4 := ks 4 28 (by decide) rfl
              rw [d4] at t28
              simp [execOp, go_sem, t28, h28, h28i, kc]
              exact ⟨hC, Below.refl _ _, rfl⟩
            · refine ⟨rfl, fun v W ρ hC kc kf ks ki kd => ?_⟩
              have d0 : v 0 = .int .i64 f := kd _ (Array.mem_of_getElem? (i := 0) rfl) rfl
              have t24 : ρ (.tmp 24) = v 0 := ks 0 24 (by decide) rfl
              rw [d0] at t24
              have d2 : v 2 = .int .i64 p.src := kd _ (Array.mem_of_getElem? (i := 1) rfl) rfl
              have t26 : ρ (.tmp 26) = v 2 := ks 2 26 (by decide) rfl
              rw [d2] at t26
              have d5 : v 5 = .string ((bytesOf p).extract 0 28) := kd _ (Array.mem_of_getElem? (i := 2) rfl) rfl
              have t29 : ρ (.tmp 29) = v 5 := ks 5 29 (by decide) rfl
              rw [d5] at t29
              simp [execOp, go_sem, t24, t26, t29, kc]
              exact ⟨hC, Below.refl _ _, rfl⟩
            · refine ⟨rfl, fun v W ρ hC kc kf ks ki kd => ?_⟩
              have d6 : v 6 = .agg #[.int .i64 f, .int .i64 p.src, .int .i64 1, .int .i64 0, .int .i64 0, .int .i64 3, .int .i64 0, .int .i64 0, .int .i64 0, .string ((bytesOf p).extract 0 28)] := kd _ (Array.mem_of_getElem? (i := 0) rfl) rfl
              have t30 : ρ (.tmp 30) = v 6 := ks 6 30 (by decide) rfl
              rw [d6] at t30
              simp [execOp, go_sem, t30]
              exact ⟨hC, Below.refl _ _, rfl⟩
          case fin =>
            intro v W hLW hgW hall
            simp [upto, Act.put]
            clear hall
            have g0 := blk_cell hgW
            have hLE := hidS (hL2.out.trans (hLW w.heap.size (Nat.le_succ _)))
            clear c0 c1 c2 c3 c4 c5 c6 c7 c8 c9 hgW hLW
            go_wp2
            refine bodyPost_ret (v := .agg #[.int .i64 f, .int .i64 p.src, .int .i64 1, .int .i64 0, .int .i64 0, .int .i64 3, .int .i64 0, .int .i64 0, .int .i64 0, .string ((bytesOf p).extract 0 28), .int .i64 0]) (by simp [results, Tryd.results10, go_sem, g0]) rfl ⟨by rw [e1.out, e2.out], hLE.out⟩
    · have h1' : (p.proto == 1) = false := beq_eq_false_iff_ne.2 h1
      clear h1
      go_wp2_with fail
      refine (l02Addr_any _ _).mono ?_
      rintro _ w3 ⟨rfl, rfl⟩
      cases hf : addrB f
      · have eb : errB p f = false := by unfold errB; rw [hr, h1', hf]; rfl
        have e1 : Hid (errC p f = 1) := if_neg (by rw [eb]; simp)
        have e2 : Hid (errP p f = zeroPk) := if_neg (by rw [eb]; simp)
        clear eb
        go_wp2
        refine bodyPost_ret (v := .agg #[.int .i64 0, .int .i64 0, .int .i64 0, .int .i64 0, .int .i64 0, .int .i64 0, .int .i64 0, .int .i64 0, .int .i64 0, .string ⟨#[]⟩, .int .i64 1]) (by simp [results, Tryd.results10, go_sem, g0]) rfl ⟨by rw [e1.out, e2.out]; rfl, ?_⟩
        iterate 11 (refine below_at ?_ (Nat.le_succ _))
        exact hL2.out
      · have eb : errB p f = true := by unfold errB; rw [hr, h1', hf]; rfl
        have e1 : Hid (errC p f = 0) := if_pos eb
        have e2 : Hid (errP p f = ⟨f, p.src, 1, 0, 0, 3, 0, 0, 0, (bytesOf p).extract 0 28⟩) := if_pos eb
        clear eb
        have hF := hidS (fine_of hr)
        have h28 : 28 ≤ (bytesOf p).size := bytesOf_28 hF.out
        have h28i : (28 : Int) ≤ ((bytesOf p).size : Int) := by omega
        have HP := H2
        go_wp2_with fail
        refine grow_into 8 _ [.is (.int .i64 f), .is (.pointer (some ⟨w.heap.size, 0, none⟩)), .is (.int .i64 p.src), .is (.agg #[.int .i64 p.src, .int .i64 p.dst, .int .i64 p.proto, .int .i64 p.a, .int .i64 p.b, .int .i64 p.kind, .int .i64 p.flags, .int .i64 p.seq, .int .i64 p.ack, .string p.body]), .is (.string (bytesOf p)), .is (.string ((bytesOf p).extract 0 28)), .is (.agg #[.int .i64 f, .int .i64 p.src, .int .i64 1, .int .i64 0, .int .i64 0, .int .i64 3, .int .i64 0, .int .i64 0, .int .i64 0, .string ((bytesOf p).extract 0 28)]), .is (.agg #[.int .i64 f, .int .i64 p.src, .int .i64 1, .int .i64 0, .int .i64 0, .int .i64 3, .int .i64 0, .int .i64 0, .int .i64 0, .string ((bytesOf p).extract 0 28), .int .i64 0])] 7 4 31 32 32 (w.heap.size + 1) #[.int .i64 0, .int .i64 0, .int .i64 0, .int .i64 0, .int .i64 0, .int .i64 0, .int .i64 0, .int .i64 0, .int .i64 0, .string ⟨#[]⟩, .int .i64 0] #[.int .i64 f, .int .i64 p.src, .int .i64 1, .int .i64 0, .int .i64 0, .int .i64 3, .int .i64 0, .int .i64 0, .int .i64 0, .string ((bytesOf p).extract 0 28), .int .i64 0] rfl rfl rfl (by kernel_rfl) (by kernel_rfl) (by kernel_rfl) rfl rfl (by decide) (by kernel_rfl) (by kernel_rfl) (by decide) hG2 (by kernel_rfl) (by kernel_rfl) (by first | kernel_rfl | simp [Value.oneCell']) (by kernel_rfl) ?steps ?fin
        case steps =>
          refine ⟨?_, ?_, ?_, ?_, ?_, ?_, ?_, ?_, trivial⟩
          · refine ⟨rfl, fun v W ρ hC kc kf ks ki kd => ?_⟩
            have t1 : ρ (.tmp 1) = .int .i64 f := ki 1 (by decide)
            simp [execOp, go_sem, t1]
            exact ⟨hC, Below.refl _ _, rfl⟩
          · refine ⟨rfl, fun v W ρ hC kc kf ks ki kd => ?_⟩
            have t2 : ρ (.tmp 2) = .pointer (some ⟨w.heap.size, 0, none⟩) := ki 2 (by decide)
            simp [execOp, go_sem, t2]
            exact ⟨hC, Below.refl _ _, rfl⟩
          · refine ⟨rfl, fun v W ρ hC kc kf ks ki kd => ?_⟩
            have d1 : v 1 = .pointer (some ⟨w.heap.size, 0, none⟩) := kd _ (Array.mem_of_getElem? (i := 0) rfl) rfl
            have t25 : ρ (.tmp 25) = v 1 := ks 1 25 (by decide) rfl
            rw [d1] at t25
            have hp := HP.out.later hC
            obtain ⟨c0, c1, c2, c3, c4, c5, c6, c7, c8, c9⟩ := hp
            simp [execOp, go_sem, t25, c0]
            exact ⟨hC, Below.refl _ _, rfl⟩
          · refine ⟨rfl, fun v W ρ hC kc kf ks ki kd => ?_⟩
            have t2 : ρ (.tmp 2) = .pointer (some ⟨w.heap.size, 0, none⟩) := ki 2 (by decide)
            have hp := HP.out.later hC
            obtain ⟨c0, c1, c2, c3, c4, c5, c6, c7, c8, c9⟩ := hp
            simp [execOp, go_sem, t2, c0, c1, c2, c3, c4, c5, c6, c7, c8, c9]
            exact ⟨hC, Below.refl _ _, rfl⟩
          · refine ⟨rfl, fun v W ρ hC kc kf ks ki kd => ?_⟩
            have d3 : v 3 = .agg #[.int .i64 p.src, .int .i64 p.dst, .int .i64 p.proto, .int .i64 p.a, .int .i64 p.b, .int .i64 p.kind, .int .i64 p.flags, .int .i64 p.seq, .int .i64 p.ack, .string p.body] := kd _ (Array.mem_of_getElem? (i := 0) rfl) rfl
            have t27 : ρ (.tmp 27) = v 3 := ks 3 27 (by decide) rfl
            rw [d3] at t27
            simp [execOp, go_sem, t27, kf]
            exact Calls.mono (l03Bytes_any p _ hF.out) (fun e x h => ⟨_, h.1, hC.trans (h.2.mono hC.size), h.2, rfl⟩)
          · refine ⟨rfl, fun v W ρ hC kc kf ks ki kd => ?_⟩
            have d4 : v 4 = .string (bytesOf p) := kd _ (Array.mem_of_getElem? (i := 0) rfl) rfl
            have t28 : ρ (.tmp 28) = v 4 := ks 4 28 (by decide) rfl
            rw [d4] at t28
            simp [execOp, go_sem, t28, h28, h28i, kc]
            exact ⟨hC, Below.refl _ _, rfl⟩
          · refine ⟨rfl, fun v W ρ hC kc kf ks ki kd => ?_⟩
            have d0 : v 0 = .int .i64 f := kd _ (Array.mem_of_getElem? (i := 0) rfl) rfl
            have t24 : ρ (.tmp 24) = v 0 := ks 0 24 (by decide) rfl
            rw [d0] at t24
            have d2 : v 2 = .int .i64 p.src := kd _ (Array.mem_of_getElem? (i := 1) rfl) rfl
            have t26 : ρ (.tmp 26) = v 2 := ks 2 26 (by decide) rfl
            rw [d2] at t26
            have d5 : v 5 = .string ((bytesOf p).extract 0 28) := kd _ (Array.mem_of_getElem? (i := 2) rfl) rfl
            have t29 : ρ (.tmp 29) = v 5 := ks 5 29 (by decide) rfl
            rw [d5] at t29
            simp [execOp, go_sem, t24, t26, t29, kc]
            exact ⟨hC, Below.refl _ _, rfl⟩
          · refine ⟨rfl, fun v W ρ hC kc kf ks ki kd => ?_⟩
            have d6 : v 6 = .agg #[.int .i64 f, .int .i64 p.src, .int .i64 1, .int .i64 0, .int .i64 0, .int .i64 3, .int .i64 0, .int .i64 0, .int .i64 0, .string ((bytesOf p).extract 0 28)] := kd _ (Array.mem_of_getElem? (i := 0) rfl) rfl
            have t30 : ρ (.tmp 30) = v 6 := ks 6 30 (by decide) rfl
            rw [d6] at t30
            simp [execOp, go_sem, t30]
            exact ⟨hC, Below.refl _ _, rfl⟩
        case fin =>
          intro v W hLW hgW hall
          simp [upto, Act.put]
          clear hall
          have g0 := blk_cell hgW
          have hLE := hidS (hL2.out.trans (hLW w.heap.size (Nat.le_succ _)))
          clear c0 c1 c2 c3 c4 c5 c6 c7 c8 c9 hgW hLW
          go_wp2
          refine bodyPost_ret (v := .agg #[.int .i64 f, .int .i64 p.src, .int .i64 1, .int .i64 0, .int .i64 0, .int .i64 3, .int .i64 0, .int .i64 0, .int .i64 0, .string ((bytesOf p).extract 0 28), .int .i64 0]) (by simp [results, Tryd.results10, go_sem, g0]) rfl ⟨by rw [e1.out, e2.out], hLE.out⟩
end Go.Proofs.YthfhbmiddillbagDoor
end

section
namespace Go.Proofs.YthfhbmiddillbagDoor
open Go.ChangeShapes Go.WideShapes Go.ChangeAt Go.RowKit
open Go.ChangeMaps (open_string shut_string)
set_option linter.unusedVariables false

/-- what partOf answers -/
def tcpV (p : Pk) : Value := .iface 106 (.agg #[.int .i64 p.a, .int .i64 p.b, .int .i64 p.seq, .int .i64 p.ack, .int .i64 p.flags, .string p.body])
def udpV (p : Pk) : Value := .iface 108 (.agg #[.int .i64 p.a, .int .i64 p.b, .string p.body])
def errV (p : Pk) : Value := .iface 110 (.agg #[.string p.body])
def echoV (p : Pk) : Value := .iface 112 (.agg #[.int .i64 p.kind, .int .i64 p.a, .int .i64 p.seq, .string p.body])

theorem partOf_tcp (p : Pk) (w : World) (h6 : p.proto = 6) :
    Calls Tryd.prog 52 #[.agg #[.int .i64 p.src, .int .i64 p.dst, .int .i64 p.proto, .int .i64 p.a, .int .i64 p.b, .int .i64 p.kind, .int .i64 p.flags, .int .i64 p.seq, .int .i64 p.ack, .string p.body]] w fun e w' => e = .returned (tcpV p) ∧ Below w.heap.size w w' := by
  have HB := fun o => hidS ((Below.refl w.heap.size w).alloc (Nat.le_refl _) o)
  go_enter Tryd.func52, Tryd.ntmps52
  go_wp2
  go_ret
  exact ⟨rfl, (HB _).out⟩
theorem partOf_udp (p : Pk) (w : World) (h17 : p.proto = 17) :
    Calls Tryd.prog 52 #[.agg #[.int .i64 p.src, .int .i64 p.dst, .int .i64 p.proto, .int .i64 p.a, .int .i64 p.b, .int .i64 p.kind, .int .i64 p.flags, .int .i64 p.seq, .int .i64 p.ack, .string p.body]] w fun e w' => e = .returned (udpV p) ∧ Below w.heap.size w w' := by
  have HB := fun o => hidS ((Below.refl w.heap.size w).alloc (Nat.le_refl _) o)
  go_enter Tryd.func52, Tryd.ntmps52
  go_wp2
  go_ret
  exact ⟨rfl, (HB _).out⟩
theorem partOf_err (p : Pk) (w : World) (h1 : p.proto = 1) (h3 : p.kind = 3) :
    Calls Tryd.prog 52 #[.agg #[.int .i64 p.src, .int .i64 p.dst, .int .i64 p.proto, .int .i64 p.a, .int .i64 p.b, .int .i64 p.kind, .int .i64 p.flags, .int .i64 p.seq, .int .i64 p.ack, .string p.body]] w fun e w' => e = .returned (errV p) ∧ Below w.heap.size w w' := by
  have HB := fun o => hidS ((Below.refl w.heap.size w).alloc (Nat.le_refl _) o)
  go_enter Tryd.func52, Tryd.ntmps52
  go_wp2
  go_ret
  exact ⟨rfl, (HB _).out⟩
theorem partOf_echo (p : Pk) (w : World) (h1 : p.proto = 1) (h3 : p.kind ≠ 3) :
    Calls Tryd.prog 52 #[.agg #[.int .i64 p.src, .int .i64 p.dst, .int .i64 p.proto, .int .i64 p.a, .int .i64 p.b, .int .i64 p.kind, .int .i64 p.flags, .int .i64 p.seq, .int .i64 p.ack, .string p.body]] w fun e w' => e = .returned (echoV p) ∧ Below w.heap.size w w' := by
  have HB := fun o => hidS ((Below.refl w.heap.size w).alloc (Nat.le_refl _) o)
  go_enter Tryd.func52, Tryd.ntmps52
  go_wp2
  go_ret
  exact ⟨rfl, (HB _).out⟩
theorem partOf_none (p : Pk) (w : World) (h6 : p.proto ≠ 6) (h17 : p.proto ≠ 17) (h1 : p.proto ≠ 1) :
    Calls Tryd.prog 52 #[.agg #[.int .i64 p.src, .int .i64 p.dst, .int .i64 p.proto, .int .i64 p.a, .int .i64 p.b, .int .i64 p.kind, .int .i64 p.flags, .int .i64 p.seq, .int .i64 p.ack, .string p.body]] w fun e w' => e = .returned (.nilIface) ∧ Below w.heap.size w w' := by
  have HB := fun o => hidS ((Below.refl w.heap.size w).alloc (Nat.le_refl _) o)
  go_enter Tryd.func52, Tryd.ntmps52
  go_wp2
  go_ret
  exact ⟨rfl, (HB _).out⟩
end Go.Proofs.YthfhbmiddillbagDoor
end

section
namespace Go.Proofs.YthfhbmiddillbagDoor
open Go.ChangeShapes Go.WideShapes Go.ChangeAt Go.RowKit
open Go.ChangeMaps (open_string shut_string)
set_option linter.unusedVariables false

/-- all of them are words -/
def allW (zs : List Int) : Bool := zs.all wordB
theorem all_take_succ (zs : List Int) (k : Nat) (h : k < zs.length) : allW (zs.take (k + 1)) = (allW (zs.take k) && wordB zs[k]) := by
  unfold allW; rw [List.take_succ_eq_append_getElem h, List.all_append]; simp
theorem all_bad (zs : List Int) (k : Nat) (h : k < zs.length) (hb : wordB zs[k] = false) : allW zs = false := by
  cases e : allW zs
  · rfl
  · have := List.all_eq_true.1 e zs[k] (List.getElem_mem h); rw [hb] at this; cases this
set_option maxHeartbeats 400000 in
theorem areWords_any (g : Nat) (zs : List Int) (w : World) (hc : ∀ j, (h : j < zs.length) → w.cell? ⟨g, j, none⟩ = some (.int .i64 zs[j])) (hl : zs.length ≤ 1000) :
    Calls Tryd.prog 96 #[.slice (some ⟨g, 0, none⟩) zs.length zs.length] w fun e w' => e = .returned (.bool (allW zs)) ∧ w' = w := by
  have HC := hidS hc
  clear hc
  go_enter Tryd.func96, Tryd.ntmps96
  go_wp2
  go_loop [7] (fun i => ∃ k : Nat, k ≤ zs.length ∧ i = .int .i64 k ∧ Hid (allW (zs.take k) = true)) (fun i => zs.length - (intOf i).toNat)
  case atStart => exact ⟨0, by omega, rfl, rfl⟩
  case round =>
    obtain ⟨k, hk, rfl, hX⟩ := hrel
    by_cases h : k < zs.length
    · have h' : (k : Int) < (zs.length : Int) := by omega
      have hck := HC.out k h
      have hA := hidS (all_bad zs k h)
      have hB : Hid (wordB zs[k] = true → allW (zs.take (k + 1)) = true) := by intro q; rw [all_take_succ zs k h, hX.out, q]; rfl
      generalize zs[k] = z at *
      clear hX
      by_cases h1 : z < 0
      · have hE : Hid (allW zs = false) := hA.out (by simp [wordB]; omega)
        clear hA hB
        go_wp2
        go_ret
        exact ⟨by rw [hE.out]; rfl, rfl⟩
      · by_cases h2 : 65535 < z
        · have hE : Hid (allW zs = false) := hA.out (by simp [wordB]; omega)
          clear hA hB
          go_wp2
          go_ret
          exact ⟨by rw [hE.out]; rfl, rfl⟩
        · have hE := hidS (hB.out (by simp [wordB]; omega))
          clear hA hB
          go_wp2
          go_round
          case rel => exact ⟨k + 1, by omega, by go_num, hE⟩
          case measure => simp [intOf]; omega
    · have hE : Hid (allW zs = true) := by have := hX.out; rw [List.take_of_length_le (by omega)] at this; exact this
      clear hX
      go_wp2
      go_ret
      exact ⟨by rw [hE.out]; rfl, rfl⟩
theorem two_cells (W : World) (a b : Int) (t : TypeId) : ∀ j, (h : j < [a, b].length) → (W.alloc (.cells #[.int .i64 a, .int .i64 b] t)).cell? ⟨W.heap.size, j, none⟩ = some (.int .i64 [a, b][j]) := by
  intro j hj
  rcases (by simp at hj; omega : j = 0 ∨ j = 1) with rfl | rfl <;> simp
theorem three_cells (W : World) (a b c : Int) (t : TypeId) : ∀ j, (h : j < [a, b, c].length) → (W.alloc (.cells #[.int .i64 a, .int .i64 b, .int .i64 c] t)).cell? ⟨W.heap.size, j, none⟩ = some (.int .i64 [a, b, c][j]) := by
  intro j hj
  rcases (by simp at hj; omega : j = 0 ∨ j = 1 ∨ j = 2) with rfl | rfl | rfl <;> simp
theorem one_cell (W : World) (a : Int) (t : TypeId) : ∀ j, (h : j < [a].length) → (W.alloc (.cells #[.int .i64 a] t)).cell? ⟨W.heap.size, j, none⟩ = some (.int .i64 [a][j]) := by
  intro j hj
  obtain rfl : j = 0 := by simp at hj; omega
  simp
end Go.Proofs.YthfhbmiddillbagDoor
end

section
namespace Go.Proofs.YthfhbmiddillbagDoor
open Go.ChangeShapes Go.WideShapes Go.ChangeAt Go.RowKit
open Go.ChangeMaps (open_string shut_string)
set_option linter.unusedVariables false

/-- all of them are addresses -/
def allA (zs : List Int) : Bool := zs.all addrB
theorem allA_take_succ (zs : List Int) (k : Nat) (h : k < zs.length) : allA (zs.take (k + 1)) = (allA (zs.take k) && addrB zs[k]) := by
  unfold allA; rw [List.take_succ_eq_append_getElem h, List.all_append]; simp
theorem allA_bad (zs : List Int) (k : Nat) (h : k < zs.length) (hb : addrB zs[k] = false) : allA zs = false := by
  cases e : allA zs
  · rfl
  · have := List.all_eq_true.1 e zs[k] (List.getElem_mem h); rw [hb] at this; cases this
set_option maxHeartbeats 400000 in
theorem areAddrs_any (g : Nat) (zs : List Int) (w : World) (hc : ∀ j, (h : j < zs.length) → w.cell? ⟨g, j, none⟩ = some (.int .i64 zs[j])) (hl : zs.length ≤ 1000) :
    Calls Tryd.prog 34 #[.slice (some ⟨g, 0, none⟩) zs.length zs.length] w fun e w' => e = .returned (.bool (allA zs)) ∧ w' = w := by
  have HC := hidS hc
  clear hc
  go_enter Tryd.func34, Tryd.ntmps34
  go_wp2
  go_loop [7] (fun i => ∃ k : Nat, k ≤ zs.length ∧ i = .int .i64 k ∧ Hid (allA (zs.take k) = true)) (fun i => zs.length - (intOf i).toNat)
  case atStart => exact ⟨0, by omega, rfl, rfl⟩
  case round =>
    obtain ⟨k, hk, rfl, hX⟩ := hrel
    by_cases h : k < zs.length
    · have h' : (k : Int) < (zs.length : Int) := by omega
      have hck := HC.out k h
      have hA := hidS (allA_bad zs k h)
      have hB : Hid (addrB zs[k] = true → allA (zs.take (k + 1)) = true) := by intro q; rw [allA_take_succ zs k h, hX.out, q]; rfl
      generalize zs[k] = z at *
      clear hX
      by_cases h1 : z < 0
      · have hE : Hid (allA zs = false) := hA.out (by simp [addrB]; omega)
        clear hA hB
        go_wp2
        go_ret
        exact ⟨by rw [hE.out]; rfl, rfl⟩
      · by_cases h2 : 4294967295 < z
        · have hE : Hid (allA zs = false) := hA.out (by simp [addrB]; omega)
          clear hA hB
          go_wp2
          go_ret
          exact ⟨by rw [hE.out]; rfl, rfl⟩
        · have hE := hidS (hB.out (by simp [addrB]; omega))
          clear hA hB
          go_wp2
          go_round
          case rel => exact ⟨k + 1, by omega, by go_num, hE⟩
          case measure => simp [intOf]; omega
    · have hE : Hid (allA zs = true) := by have := hX.out; rw [List.take_of_length_le (by omega)] at this; exact this
      clear hX
      go_wp2
      go_ret
      exact ⟨by rw [hE.out]; rfl, rfl⟩
end Go.Proofs.YthfhbmiddillbagDoor
end
