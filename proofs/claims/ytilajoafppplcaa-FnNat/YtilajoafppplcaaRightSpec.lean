/- Proved here: spec.l02Addr and spec.PacketRight answer whether an address, a packet is right; all old memory stays (condition: the body is a string). -/
import Derived.Test.YtilajoafppplcaaAll5
import Derived.Test.YtilajoafppplcaaAll11
namespace Go.Proofs.Ytilajoafppplcaa
open Go.ChangeShapes Go.WideShapes Go.ChangeAt Go.RowKit
open Go.ChangeMaps (open_string shut_string)
set_option linter.unusedVariables false

theorem l02Flag_any (n : Int) (w : World) :
    Calls Try.prog 53 #[.int .i64 n, .int .i64 0, .int .i64 63] w fun e w' => e = .returned (.bool (flagB n)) ∧ w' = w := l02Is_any n 0 63 w

set_option maxHeartbeats 4000000 in
theorem specRight_any (p : Pk) (w : World) (hs : p.body.size ≤ maxLen) :
    Calls Try.prog 128 #[.agg #[.int .i64 p.src, .int .i64 p.dst, .int .i64 p.proto, .int .i64 p.a, .int .i64 p.b, .int .i64 p.kind, .int .i64 p.flags, .int .i64 p.seq, .int .i64 p.ack, .string p.body]] w fun e w' => e = .returned (.bool (rightB p)) ∧ Below w.heap.size w w' := by
  have hs' : p.body.size ≤ 2 ^ 63 - 1 := hs
  have HB := fun o => hidS ((Below.refl w.heap.size w).alloc (Nat.le_refl _) o)
  cases h1 : addrB p.src
  · have e : Hid (rightB p = false) := by unfold Hid rightB tcpB udpB pingB; simp_all
    go_enter Try.func128, Try.ntmps128
    go_wp2_with (first | (go_at_call 83; refine (l02Addr_any _ _).mono ?_; rintro e w1 ⟨rfl, rfl⟩) | (go_at_call 88; refine (l02Word_any _ _).mono ?_; rintro e w1 ⟨rfl, rfl⟩) | (go_at_call 53; refine (l02Flag_any _ _).mono ?_; rintro e w1 ⟨rfl, rfl⟩))
    go_ret
    exact ⟨by rw [e.out]; rfl, (HB _).out⟩
  cases h2 : addrB p.dst
  · have e : Hid (rightB p = false) := by unfold Hid rightB tcpB udpB pingB; simp_all
    go_enter Try.func128, Try.ntmps128
    go_wp2_with (first | (go_at_call 83; refine (l02Addr_any _ _).mono ?_; rintro e w1 ⟨rfl, rfl⟩) | (go_at_call 88; refine (l02Word_any _ _).mono ?_; rintro e w1 ⟨rfl, rfl⟩) | (go_at_call 53; refine (l02Flag_any _ _).mono ?_; rintro e w1 ⟨rfl, rfl⟩))
    go_ret
    exact ⟨by rw [e.out]; rfl, (HB _).out⟩
  by_cases hz0 : p.body.size ≤ 100
  · by_cases p6 : p.proto = 6
    · have p6' : (p.proto == 6) = true := beq_iff_eq.2 p6
      cases ha : wordB p.a
      · have e : Hid (rightB p = false) := by unfold Hid rightB tcpB udpB pingB; simp_all
        go_enter Try.func128, Try.ntmps128
        go_wp2_with (first | (go_at_call 83; refine (l02Addr_any _ _).mono ?_; rintro e w1 ⟨rfl, rfl⟩) | (go_at_call 88; refine (l02Word_any _ _).mono ?_; rintro e w1 ⟨rfl, rfl⟩) | (go_at_call 53; refine (l02Flag_any _ _).mono ?_; rintro e w1 ⟨rfl, rfl⟩))
        go_ret
        exact ⟨by rw [e.out]; rfl, (HB _).out⟩
      cases hb : wordB p.b
      · have e : Hid (rightB p = false) := by unfold Hid rightB tcpB udpB pingB; simp_all
        go_enter Try.func128, Try.ntmps128
        go_wp2_with (first | (go_at_call 83; refine (l02Addr_any _ _).mono ?_; rintro e w1 ⟨rfl, rfl⟩) | (go_at_call 88; refine (l02Word_any _ _).mono ?_; rintro e w1 ⟨rfl, rfl⟩) | (go_at_call 53; refine (l02Flag_any _ _).mono ?_; rintro e w1 ⟨rfl, rfl⟩))
        go_ret
        exact ⟨by rw [e.out]; rfl, (HB _).out⟩
      by_cases hk : p.kind = 0
      · have hk' : (p.kind == 0) = true := beq_iff_eq.2 hk
        have hkn : (p.kind != 0) = false := by rw [bne, hk']; rfl
        cases hf : flagB p.flags
        · have e : Hid (rightB p = false) := by unfold Hid rightB tcpB udpB pingB; simp_all
          go_enter Try.func128, Try.ntmps128
          go_wp2_with (first | (go_at_call 83; refine (l02Addr_any _ _).mono ?_; rintro e w1 ⟨rfl, rfl⟩) | (go_at_call 88; refine (l02Word_any _ _).mono ?_; rintro e w1 ⟨rfl, rfl⟩) | (go_at_call 53; refine (l02Flag_any _ _).mono ?_; rintro e w1 ⟨rfl, rfl⟩))
          go_ret
          exact ⟨by rw [e.out]; rfl, (HB _).out⟩
        cases hq : addrB p.seq
        · have e : Hid (rightB p = false) := by unfold Hid rightB tcpB udpB pingB; simp_all
          go_enter Try.func128, Try.ntmps128
          go_wp2_with (first | (go_at_call 83; refine (l02Addr_any _ _).mono ?_; rintro e w1 ⟨rfl, rfl⟩) | (go_at_call 88; refine (l02Word_any _ _).mono ?_; rintro e w1 ⟨rfl, rfl⟩) | (go_at_call 53; refine (l02Flag_any _ _).mono ?_; rintro e w1 ⟨rfl, rfl⟩))
          go_ret
          exact ⟨by rw [e.out]; rfl, (HB _).out⟩
        cases hc : addrB p.ack
        · have e : Hid (rightB p = false) := by unfold Hid rightB tcpB udpB pingB; simp_all
          go_enter Try.func128, Try.ntmps128
          go_wp2_with (first | (go_at_call 83; refine (l02Addr_any _ _).mono ?_; rintro e w1 ⟨rfl, rfl⟩) | (go_at_call 88; refine (l02Word_any _ _).mono ?_; rintro e w1 ⟨rfl, rfl⟩) | (go_at_call 53; refine (l02Flag_any _ _).mono ?_; rintro e w1 ⟨rfl, rfl⟩))
          go_ret
          exact ⟨by rw [e.out]; rfl, (HB _).out⟩
        have e : Hid (rightB p = true) := by unfold Hid rightB tcpB udpB pingB; simp_all
        go_enter Try.func128, Try.ntmps128
        go_wp2_with (first | (go_at_call 83; refine (l02Addr_any _ _).mono ?_; rintro e w1 ⟨rfl, rfl⟩) | (go_at_call 88; refine (l02Word_any _ _).mono ?_; rintro e w1 ⟨rfl, rfl⟩) | (go_at_call 53; refine (l02Flag_any _ _).mono ?_; rintro e w1 ⟨rfl, rfl⟩))
        go_ret
        exact ⟨by rw [e.out]; rfl, (HB _).out⟩
      · have hk' : (p.kind == 0) = false := beq_eq_false_iff_ne.2 hk
        have hkn : (p.kind != 0) = true := by rw [bne, hk']; rfl
        have e : Hid (rightB p = false) := by unfold Hid rightB tcpB udpB pingB; simp_all
        go_enter Try.func128, Try.ntmps128
        go_wp2_with (first | (go_at_call 83; refine (l02Addr_any _ _).mono ?_; rintro e w1 ⟨rfl, rfl⟩) | (go_at_call 88; refine (l02Word_any _ _).mono ?_; rintro e w1 ⟨rfl, rfl⟩) | (go_at_call 53; refine (l02Flag_any _ _).mono ?_; rintro e w1 ⟨rfl, rfl⟩))
        go_ret
        exact ⟨by rw [e.out]; rfl, (HB _).out⟩
    · have p6' : (p.proto == 6) = false := beq_eq_false_iff_ne.2 p6
      by_cases p17 : p.proto = 17
      · have p17' : (p.proto == 17) = true := beq_iff_eq.2 p17
        cases ha : wordB p.a
        · have e : Hid (rightB p = false) := by unfold Hid rightB tcpB udpB pingB; simp_all
          go_enter Try.func128, Try.ntmps128
          go_wp2_with (first | (go_at_call 83; refine (l02Addr_any _ _).mono ?_; rintro e w1 ⟨rfl, rfl⟩) | (go_at_call 88; refine (l02Word_any _ _).mono ?_; rintro e w1 ⟨rfl, rfl⟩) | (go_at_call 53; refine (l02Flag_any _ _).mono ?_; rintro e w1 ⟨rfl, rfl⟩))
          go_ret
          exact ⟨by rw [e.out]; rfl, (HB _).out⟩
        cases hb : wordB p.b
        · have e : Hid (rightB p = false) := by unfold Hid rightB tcpB udpB pingB; simp_all
          go_enter Try.func128, Try.ntmps128
          go_wp2_with (first | (go_at_call 83; refine (l02Addr_any _ _).mono ?_; rintro e w1 ⟨rfl, rfl⟩) | (go_at_call 88; refine (l02Word_any _ _).mono ?_; rintro e w1 ⟨rfl, rfl⟩) | (go_at_call 53; refine (l02Flag_any _ _).mono ?_; rintro e w1 ⟨rfl, rfl⟩))
          go_ret
          exact ⟨by rw [e.out]; rfl, (HB _).out⟩
        by_cases hk : p.kind = 0
        · have hk' : (p.kind == 0) = true := beq_iff_eq.2 hk
          have hkn : (p.kind != 0) = false := by rw [bne, hk']; rfl
          by_cases hf : p.flags = 0
          · have hf' : (p.flags == 0) = true := beq_iff_eq.2 hf
            have hfn : (p.flags != 0) = false := by rw [bne, hf']; rfl
            by_cases hq : p.seq = 0
            · have hq' : (p.seq == 0) = true := beq_iff_eq.2 hq
              have hqn : (p.seq != 0) = false := by rw [bne, hq']; rfl
              by_cases hc : p.ack = 0
              · have hc' : (p.ack == 0) = true := beq_iff_eq.2 hc
                have hcn : (p.ack != 0) = false := by rw [bne, hc']; rfl
                have e : Hid (rightB p = true) := by unfold Hid rightB tcpB udpB pingB; simp_all
                go_enter Try.func128, Try.ntmps128
                go_wp2_with (first | (go_at_call 83; refine (l02Addr_any _ _).mono ?_; rintro e w1 ⟨rfl, rfl⟩) | (go_at_call 88; refine (l02Word_any _ _).mono ?_; rintro e w1 ⟨rfl, rfl⟩) | (go_at_call 53; refine (l02Flag_any _ _).mono ?_; rintro e w1 ⟨rfl, rfl⟩))
                go_ret
                exact ⟨by rw [e.out]; rfl, (HB _).out⟩
              · have hc' : (p.ack == 0) = false := beq_eq_false_iff_ne.2 hc
                have hcn : (p.ack != 0) = true := by rw [bne, hc']; rfl
                have e : Hid (rightB p = false) := by unfold Hid rightB tcpB udpB pingB; simp_all
                go_enter Try.func128, Try.ntmps128
                go_wp2_with (first | (go_at_call 83; refine (l02Addr_any _ _).mono ?_; rintro e w1 ⟨rfl, rfl⟩) | (go_at_call 88; refine (l02Word_any _ _).mono ?_; rintro e w1 ⟨rfl, rfl⟩) | (go_at_call 53; refine (l02Flag_any _ _).mono ?_; rintro e w1 ⟨rfl, rfl⟩))
                go_ret
                exact ⟨by rw [e.out]; rfl, (HB _).out⟩
            · have hq' : (p.seq == 0) = false := beq_eq_false_iff_ne.2 hq
              have hqn : (p.seq != 0) = true := by rw [bne, hq']; rfl
              have e : Hid (rightB p = false) := by unfold Hid rightB tcpB udpB pingB; simp_all
              go_enter Try.func128, Try.ntmps128
              go_wp2_with (first | (go_at_call 83; refine (l02Addr_any _ _).mono ?_; rintro e w1 ⟨rfl, rfl⟩) | (go_at_call 88; refine (l02Word_any _ _).mono ?_; rintro e w1 ⟨rfl, rfl⟩) | (go_at_call 53; refine (l02Flag_any _ _).mono ?_; rintro e w1 ⟨rfl, rfl⟩))
              go_ret
              exact ⟨by rw [e.out]; rfl, (HB _).out⟩
          · have hf' : (p.flags == 0) = false := beq_eq_false_iff_ne.2 hf
            have hfn : (p.flags != 0) = true := by rw [bne, hf']; rfl
            have e : Hid (rightB p = false) := by unfold Hid rightB tcpB udpB pingB; simp_all
            go_enter Try.func128, Try.ntmps128
            go_wp2_with (first | (go_at_call 83; refine (l02Addr_any _ _).mono ?_; rintro e w1 ⟨rfl, rfl⟩) | (go_at_call 88; refine (l02Word_any _ _).mono ?_; rintro e w1 ⟨rfl, rfl⟩) | (go_at_call 53; refine (l02Flag_any _ _).mono ?_; rintro e w1 ⟨rfl, rfl⟩))
            go_ret
            exact ⟨by rw [e.out]; rfl, (HB _).out⟩
        · have hk' : (p.kind == 0) = false := beq_eq_false_iff_ne.2 hk
          have hkn : (p.kind != 0) = true := by rw [bne, hk']; rfl
          have e : Hid (rightB p = false) := by unfold Hid rightB tcpB udpB pingB; simp_all
          go_enter Try.func128, Try.ntmps128
          go_wp2_with (first | (go_at_call 83; refine (l02Addr_any _ _).mono ?_; rintro e w1 ⟨rfl, rfl⟩) | (go_at_call 88; refine (l02Word_any _ _).mono ?_; rintro e w1 ⟨rfl, rfl⟩) | (go_at_call 53; refine (l02Flag_any _ _).mono ?_; rintro e w1 ⟨rfl, rfl⟩))
          go_ret
          exact ⟨by rw [e.out]; rfl, (HB _).out⟩
      · have p17' : (p.proto == 17) = false := beq_eq_false_iff_ne.2 p17
        by_cases p1 : p.proto = 1
        · have p1' : (p.proto == 1) = true := beq_iff_eq.2 p1
          by_cases hb : p.b = 0
          · have hb' : (p.b == 0) = true := beq_iff_eq.2 hb
            have hbn : (p.b != 0) = false := by rw [bne, hb']; rfl
            by_cases hf : p.flags = 0
            · have hf' : (p.flags == 0) = true := beq_iff_eq.2 hf
              have hfn : (p.flags != 0) = false := by rw [bne, hf']; rfl
              by_cases hc : p.ack = 0
              · have hc' : (p.ack == 0) = true := beq_iff_eq.2 hc
                have hcn : (p.ack != 0) = false := by rw [bne, hc']; rfl
                by_cases h3 : p.kind = 3
                · have h3' : (p.kind == 3) = true := beq_iff_eq.2 h3
                  by_cases ha : p.a = 0
                  · have ha' : (p.a == 0) = true := beq_iff_eq.2 ha
                    have han : (p.a != 0) = false := by rw [bne, ha']; rfl
                    by_cases hq : p.seq = 0
                    · have hq' : (p.seq == 0) = true := beq_iff_eq.2 hq
                      have hqn : (p.seq != 0) = false := by rw [bne, hq']; rfl
                      by_cases hz : 28 ≤ p.body.size
                      · have hzd : decide ((28 : Int) ≤ (p.body.size : Int)) = true := by simp; omega
                        have e : Hid (rightB p = true) := by unfold Hid rightB tcpB udpB pingB; simp_all
                        go_enter Try.func128, Try.ntmps128
                        go_wp2_with (first | (go_at_call 83; refine (l02Addr_any _ _).mono ?_; rintro e w1 ⟨rfl, rfl⟩) | (go_at_call 88; refine (l02Word_any _ _).mono ?_; rintro e w1 ⟨rfl, rfl⟩) | (go_at_call 53; refine (l02Flag_any _ _).mono ?_; rintro e w1 ⟨rfl, rfl⟩))
                        go_ret
                        exact ⟨by rw [e.out]; rfl, (HB _).out⟩
                      · have hzd : decide ((28 : Int) ≤ (p.body.size : Int)) = false := by simp; omega
                        have e : Hid (rightB p = false) := by unfold Hid rightB tcpB udpB pingB; simp_all
                        go_enter Try.func128, Try.ntmps128
                        go_wp2_with (first | (go_at_call 83; refine (l02Addr_any _ _).mono ?_; rintro e w1 ⟨rfl, rfl⟩) | (go_at_call 88; refine (l02Word_any _ _).mono ?_; rintro e w1 ⟨rfl, rfl⟩) | (go_at_call 53; refine (l02Flag_any _ _).mono ?_; rintro e w1 ⟨rfl, rfl⟩))
                        go_ret
                        exact ⟨by rw [e.out]; rfl, (HB _).out⟩
                    · have hq' : (p.seq == 0) = false := beq_eq_false_iff_ne.2 hq
                      have hqn : (p.seq != 0) = true := by rw [bne, hq']; rfl
                      have e : Hid (rightB p = false) := by unfold Hid rightB tcpB udpB pingB; simp_all
                      go_enter Try.func128, Try.ntmps128
                      go_wp2_with (first | (go_at_call 83; refine (l02Addr_any _ _).mono ?_; rintro e w1 ⟨rfl, rfl⟩) | (go_at_call 88; refine (l02Word_any _ _).mono ?_; rintro e w1 ⟨rfl, rfl⟩) | (go_at_call 53; refine (l02Flag_any _ _).mono ?_; rintro e w1 ⟨rfl, rfl⟩))
                      go_ret
                      exact ⟨by rw [e.out]; rfl, (HB _).out⟩
                  · have ha' : (p.a == 0) = false := beq_eq_false_iff_ne.2 ha
                    have han : (p.a != 0) = true := by rw [bne, ha']; rfl
                    have e : Hid (rightB p = false) := by unfold Hid rightB tcpB udpB pingB; simp_all
                    go_enter Try.func128, Try.ntmps128
                    go_wp2_with (first | (go_at_call 83; refine (l02Addr_any _ _).mono ?_; rintro e w1 ⟨rfl, rfl⟩) | (go_at_call 88; refine (l02Word_any _ _).mono ?_; rintro e w1 ⟨rfl, rfl⟩) | (go_at_call 53; refine (l02Flag_any _ _).mono ?_; rintro e w1 ⟨rfl, rfl⟩))
                    go_ret
                    exact ⟨by rw [e.out]; rfl, (HB _).out⟩
                · have h3' : (p.kind == 3) = false := beq_eq_false_iff_ne.2 h3
                  by_cases h8 : p.kind = 8
                  · have h8' : (p.kind == 8) = true := beq_iff_eq.2 h8
                    cases ha : wordB p.a
                    · have e : Hid (rightB p = false) := by unfold Hid rightB tcpB udpB pingB; simp_all
                      go_enter Try.func128, Try.ntmps128
                      go_wp2_with (first | (go_at_call 83; refine (l02Addr_any _ _).mono ?_; rintro e w1 ⟨rfl, rfl⟩) | (go_at_call 88; refine (l02Word_any _ _).mono ?_; rintro e w1 ⟨rfl, rfl⟩) | (go_at_call 53; refine (l02Flag_any _ _).mono ?_; rintro e w1 ⟨rfl, rfl⟩))
                      go_ret
                      exact ⟨by rw [e.out]; rfl, (HB _).out⟩
                    cases hq : wordB p.seq
                    · have e : Hid (rightB p = false) := by unfold Hid rightB tcpB udpB pingB; simp_all
                      go_enter Try.func128, Try.ntmps128
                      go_wp2_with (first | (go_at_call 83; refine (l02Addr_any _ _).mono ?_; rintro e w1 ⟨rfl, rfl⟩) | (go_at_call 88; refine (l02Word_any _ _).mono ?_; rintro e w1 ⟨rfl, rfl⟩) | (go_at_call 53; refine (l02Flag_any _ _).mono ?_; rintro e w1 ⟨rfl, rfl⟩))
                      go_ret
                      exact ⟨by rw [e.out]; rfl, (HB _).out⟩
                    have e : Hid (rightB p = true) := by unfold Hid rightB tcpB udpB pingB; simp_all
                    go_enter Try.func128, Try.ntmps128
                    go_wp2_with (first | (go_at_call 83; refine (l02Addr_any _ _).mono ?_; rintro e w1 ⟨rfl, rfl⟩) | (go_at_call 88; refine (l02Word_any _ _).mono ?_; rintro e w1 ⟨rfl, rfl⟩) | (go_at_call 53; refine (l02Flag_any _ _).mono ?_; rintro e w1 ⟨rfl, rfl⟩))
                    go_ret
                    exact ⟨by rw [e.out]; rfl, (HB _).out⟩
                  · have h8' : (p.kind == 8) = false := beq_eq_false_iff_ne.2 h8
                    by_cases h0 : p.kind = 0
                    · have h0' : (p.kind == 0) = true := beq_iff_eq.2 h0
                      have h0n : (p.kind != 0) = false := by rw [bne, h0']; rfl
                      cases ha : wordB p.a
                      · have e : Hid (rightB p = false) := by unfold Hid rightB tcpB udpB pingB; simp_all
                        go_enter Try.func128, Try.ntmps128
                        go_wp2_with (first | (go_at_call 83; refine (l02Addr_any _ _).mono ?_; rintro e w1 ⟨rfl, rfl⟩) | (go_at_call 88; refine (l02Word_any _ _).mono ?_; rintro e w1 ⟨rfl, rfl⟩) | (go_at_call 53; refine (l02Flag_any _ _).mono ?_; rintro e w1 ⟨rfl, rfl⟩))
                        go_ret
                        exact ⟨by rw [e.out]; rfl, (HB _).out⟩
                      cases hq : wordB p.seq
                      · have e : Hid (rightB p = false) := by unfold Hid rightB tcpB udpB pingB; simp_all
                        go_enter Try.func128, Try.ntmps128
                        go_wp2_with (first | (go_at_call 83; refine (l02Addr_any _ _).mono ?_; rintro e w1 ⟨rfl, rfl⟩) | (go_at_call 88; refine (l02Word_any _ _).mono ?_; rintro e w1 ⟨rfl, rfl⟩) | (go_at_call 53; refine (l02Flag_any _ _).mono ?_; rintro e w1 ⟨rfl, rfl⟩))
                        go_ret
                        exact ⟨by rw [e.out]; rfl, (HB _).out⟩
                      have e : Hid (rightB p = true) := by unfold Hid rightB tcpB udpB pingB; simp_all
                      go_enter Try.func128, Try.ntmps128
                      go_wp2_with (first | (go_at_call 83; refine (l02Addr_any _ _).mono ?_; rintro e w1 ⟨rfl, rfl⟩) | (go_at_call 88; refine (l02Word_any _ _).mono ?_; rintro e w1 ⟨rfl, rfl⟩) | (go_at_call 53; refine (l02Flag_any _ _).mono ?_; rintro e w1 ⟨rfl, rfl⟩))
                      go_ret
                      exact ⟨by rw [e.out]; rfl, (HB _).out⟩
                    · have h0' : (p.kind == 0) = false := beq_eq_false_iff_ne.2 h0
                      have h0n : (p.kind != 0) = true := by rw [bne, h0']; rfl
                      have e : Hid (rightB p = false) := by unfold Hid rightB tcpB udpB pingB; simp_all
                      go_enter Try.func128, Try.ntmps128
                      go_wp2_with (first | (go_at_call 83; refine (l02Addr_any _ _).mono ?_; rintro e w1 ⟨rfl, rfl⟩) | (go_at_call 88; refine (l02Word_any _ _).mono ?_; rintro e w1 ⟨rfl, rfl⟩) | (go_at_call 53; refine (l02Flag_any _ _).mono ?_; rintro e w1 ⟨rfl, rfl⟩))
                      go_ret
                      exact ⟨by rw [e.out]; rfl, (HB _).out⟩
              · have hc' : (p.ack == 0) = false := beq_eq_false_iff_ne.2 hc
                have hcn : (p.ack != 0) = true := by rw [bne, hc']; rfl
                have e : Hid (rightB p = false) := by unfold Hid rightB tcpB udpB pingB; simp_all
                go_enter Try.func128, Try.ntmps128
                go_wp2_with (first | (go_at_call 83; refine (l02Addr_any _ _).mono ?_; rintro e w1 ⟨rfl, rfl⟩) | (go_at_call 88; refine (l02Word_any _ _).mono ?_; rintro e w1 ⟨rfl, rfl⟩) | (go_at_call 53; refine (l02Flag_any _ _).mono ?_; rintro e w1 ⟨rfl, rfl⟩))
                go_ret
                exact ⟨by rw [e.out]; rfl, (HB _).out⟩
            · have hf' : (p.flags == 0) = false := beq_eq_false_iff_ne.2 hf
              have hfn : (p.flags != 0) = true := by rw [bne, hf']; rfl
              have e : Hid (rightB p = false) := by unfold Hid rightB tcpB udpB pingB; simp_all
              go_enter Try.func128, Try.ntmps128
              go_wp2_with (first | (go_at_call 83; refine (l02Addr_any _ _).mono ?_; rintro e w1 ⟨rfl, rfl⟩) | (go_at_call 88; refine (l02Word_any _ _).mono ?_; rintro e w1 ⟨rfl, rfl⟩) | (go_at_call 53; refine (l02Flag_any _ _).mono ?_; rintro e w1 ⟨rfl, rfl⟩))
              go_ret
              exact ⟨by rw [e.out]; rfl, (HB _).out⟩
          · have hb' : (p.b == 0) = false := beq_eq_false_iff_ne.2 hb
            have hbn : (p.b != 0) = true := by rw [bne, hb']; rfl
            have e : Hid (rightB p = false) := by unfold Hid rightB tcpB udpB pingB; simp_all
            go_enter Try.func128, Try.ntmps128
            go_wp2_with (first | (go_at_call 83; refine (l02Addr_any _ _).mono ?_; rintro e w1 ⟨rfl, rfl⟩) | (go_at_call 88; refine (l02Word_any _ _).mono ?_; rintro e w1 ⟨rfl, rfl⟩) | (go_at_call 53; refine (l02Flag_any _ _).mono ?_; rintro e w1 ⟨rfl, rfl⟩))
            go_ret
            exact ⟨by rw [e.out]; rfl, (HB _).out⟩
        · have p1' : (p.proto == 1) = false := beq_eq_false_iff_ne.2 p1
          have e : Hid (rightB p = false) := by unfold Hid rightB tcpB udpB pingB; simp_all
          go_enter Try.func128, Try.ntmps128
          go_wp2_with (first | (go_at_call 83; refine (l02Addr_any _ _).mono ?_; rintro e w1 ⟨rfl, rfl⟩) | (go_at_call 88; refine (l02Word_any _ _).mono ?_; rintro e w1 ⟨rfl, rfl⟩) | (go_at_call 53; refine (l02Flag_any _ _).mono ?_; rintro e w1 ⟨rfl, rfl⟩))
          go_ret
          exact ⟨by rw [e.out]; rfl, (HB _).out⟩
  · have e : Hid (rightB p = false) := by unfold Hid rightB; rw [show decide (p.body.size ≤ 100) = false from by simp; omega]; simp
    go_enter Try.func128, Try.ntmps128
    go_wp2_with (first | (go_at_call 83; refine (l02Addr_any _ _).mono ?_; rintro e w1 ⟨rfl, rfl⟩) | (go_at_call 88; refine (l02Word_any _ _).mono ?_; rintro e w1 ⟨rfl, rfl⟩) | (go_at_call 53; refine (l02Flag_any _ _).mono ?_; rintro e w1 ⟨rfl, rfl⟩))
    go_ret
    exact ⟨by rw [e.out]; rfl, (HB _).out⟩
end Go.Proofs.Ytilajoafppplcaa
