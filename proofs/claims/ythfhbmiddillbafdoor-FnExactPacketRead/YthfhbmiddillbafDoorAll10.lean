/- Proved here: spec.l02Addr and spec.PacketRight answer whether an address, a packet is right; all old memory stays (condition: the body is a string). · Proved here: spec.PacketRead answers the packet whose bytes a text is, or why it is none; all old memory stays (condition: the text is a string). · Proved here: nothing of a program: what is scanned of a text is what is read of it, and two texts without their checks are the same just where they are so with these words as 0. · Proved here: impl.packetAnswer answers the packet with the code of the error; all old memory stays (condition: what codeOf answers is told). -/
import Derived.Test.YthfhbmiddillbafDoorAll0
import Derived.Test.YthfhbmiddillbafDoorAll9
import Derived.Test.YthfhbmiddillbafDoorAll8
import Derived.Deep.RegionHeld3
import Derived.Test.YthfhbmiddillbafDoorAll2
import Derived.Test.YthfhbmiddillbafDoorAll6
import Derived.Test.YthfhbmiddillbafDoorAll4
section
namespace Go.Proofs.YthfhbmiddillbafDoor
open Go.ChangeShapes Go.WideShapes Go.ChangeAt Go.RowKit
open Go.ChangeMaps (open_string shut_string)
set_option linter.unusedVariables false

theorem l02Addr_any (n : Int) (w : World) :
    Calls Tryd.prog 17 #[.int .i64 n] w fun e w' => e = .returned (.bool (addrB n)) ∧ w' = w := by
  go_enter Tryd.func17, Tryd.ntmps17
  go_wp2_with fail
  refine (l02Is_any n 0 4294967295 _).mono ?_
  rintro e w1 ⟨rfl, rfl⟩
  go_wp2
  go_ret
  exact ⟨rfl, rfl⟩

theorem l02Flag_any (n : Int) (w : World) :
    Calls Tryd.prog 25 #[.int .i64 n, .int .i64 0, .int .i64 63] w fun e w' => e = .returned (.bool (flagB n)) ∧ w' = w := l02Is_any n 0 63 w

set_option maxHeartbeats 4000000 in
theorem specRight_any (p : Pk) (w : World) (hs : p.body.size ≤ maxLen) :
    Calls Tryd.prog 11 #[.agg #[.int .i64 p.src, .int .i64 p.dst, .int .i64 p.proto, .int .i64 p.a, .int .i64 p.b, .int .i64 p.kind, .int .i64 p.flags, .int .i64 p.seq, .int .i64 p.ack, .string p.body]] w fun e w' => e = .returned (.bool (rightB p)) ∧ Below w.heap.size w w' := by
  have hs' : p.body.size ≤ 2 ^ 63 - 1 := hs
  have HB := fun o => hidS ((Below.refl w.heap.size w).alloc (Nat.le_refl _) o)
  cases h1 : addrB p.src
  · have e : Hid (rightB p = false) := by unfold Hid rightB tcpB udpB pingB; simp_all
    go_enter Tryd.func11, Tryd.ntmps11
    go_wp2_with (first | (go_at_call 17; refine (l02Addr_any _ _).mono ?_; rintro e w1 ⟨rfl, rfl⟩) | (go_at_call 24; refine (l02Word_any _ _).mono ?_; rintro e w1 ⟨rfl, rfl⟩) | (go_at_call 25; refine (l02Flag_any _ _).mono ?_; rintro e w1 ⟨rfl, rfl⟩))
    go_ret
    exact ⟨by rw [e.out]; rfl, (HB _).out⟩
  cases h2 : addrB p.dst
  · have e : Hid (rightB p = false) := by unfold Hid rightB tcpB udpB pingB; simp_all
    go_enter Tryd.func11, Tryd.ntmps11
    go_wp2_with (first | (go_at_call 17; refine (l02Addr_any _ _).mono ?_; rintro e w1 ⟨rfl, rfl⟩) | (go_at_call 24; refine (l02Word_any _ _).mono ?_; rintro e w1 ⟨rfl, rfl⟩) | (go_at_call 25; refine (l02Flag_any _ _).mono ?_; rintro e w1 ⟨rfl, rfl⟩))
    go_ret
    exact ⟨by rw [e.out]; rfl, (HB _).out⟩
  by_cases hz0 : p.body.size ≤ 100
  · by_cases p6 : p.proto = 6
    · have p6' : (p.proto == 6) = true := beq_iff_eq.2 p6
      cases ha : wordB p.a
      · have e : Hid (rightB p = false) := by unfold Hid rightB tcpB udpB pingB; simp_all
        go_enter Tryd.func11, Tryd.ntmps11
        go_wp2_with (first | (go_at_call 17; refine (l02Addr_any _ _).mono ?_; rintro e w1 ⟨rfl, rfl⟩) | (go_at_call 24; refine (l02Word_any _ _).mono ?_; rintro e w1 ⟨rfl, rfl⟩) | (go_at_call 25; refine (l02Flag_any _ _).mono ?_; rintro e w1 ⟨rfl, rfl⟩))
        go_ret
        exact ⟨by rw [e.out]; rfl, (HB _).out⟩
      cases hb : wordB p.b
      · have e : Hid (rightB p = false) := by unfold Hid rightB tcpB udpB pingB; simp_all
        go_enter Tryd.func11, Tryd.ntmps11
        go_wp2_with (first | (go_at_call 17; refine (l02Addr_any _ _).mono ?_; rintro e w1 ⟨rfl, rfl⟩) | (go_at_call 24; refine (l02Word_any _ _).mono ?_; rintro e w1 ⟨rfl, rfl⟩) | (go_at_call 25; refine (l02Flag_any _ _).mono ?_; rintro e w1 ⟨rfl, rfl⟩))
        go_ret
        exact ⟨by rw [e.out]; rfl, (HB _).out⟩
      by_cases hk : p.kind = 0
      · have hk' : (p.kind == 0) = true := beq_iff_eq.2 hk
        have hkn : (p.kind != 0) = false := by rw [bne, hk']; rfl
        cases hf : flagB p.flags
        · have e : Hid (rightB p = false) := by unfold Hid rightB tcpB udpB pingB; simp_all
          go_enter Tryd.func11, Tryd.ntmps11
          go_wp2_with (first | (go_at_call 17; refine (l02Addr_any _ _).mono ?_; rintro e w1 ⟨rfl, rfl⟩) | (go_at_call 24; refine (l02Word_any _ _).mono ?_; rintro e w1 ⟨rfl, rfl⟩) | (go_at_call 25; refine (l02Flag_any _ _).mono ?_; rintro e w1 ⟨rfl, rfl⟩))
          go_ret
          exact ⟨by rw [e.out]; rfl, (HB _).out⟩
        cases hq : addrB p.seq
        · have e : Hid (rightB p = false) := by unfold Hid rightB tcpB udpB pingB; simp_all
          go_enter Tryd.func11, Tryd.ntmps11
          go_wp2_with (first | (go_at_call 17; refine (l02Addr_any _ _).mono ?_; rintro e w1 ⟨rfl, rfl⟩) | (go_at_call 24; refine (l02Word_any _ _).mono ?_; rintro e w1 ⟨rfl, rfl⟩) | (go_at_call 25; refine (l02Flag_any _ _).mono ?_; rintro e w1 ⟨rfl, rfl⟩))
          go_ret
          exact ⟨by rw [e.out]; rfl, (HB _).out⟩
        cases hc : addrB p.ack
        · have e : Hid (rightB p = false) := by unfold Hid rightB tcpB udpB pingB; simp_all
          go_enter Tryd.func11, Tryd.ntmps11
          go_wp2_with (first | (go_at_call 17; refine (l02Addr_any _ _).mono ?_; rintro e w1 ⟨rfl, rfl⟩) | (go_at_call 24; refine (l02Word_any _ _).mono ?_; rintro e w1 ⟨rfl, rfl⟩) | (go_at_call 25; refine (l02Flag_any _ _).mono ?_; rintro e w1 ⟨rfl, rfl⟩))
          go_ret
          exact ⟨by rw [e.out]; rfl, (HB _).out⟩
        have e : Hid (rightB p = true) := by unfold Hid rightB tcpB udpB pingB; simp_all
        go_enter Tryd.func11, Tryd.ntmps11
        go_wp2_with (first | (go_at_call 17; refine (l02Addr_any _ _).mono ?_; rintro e w1 ⟨rfl, rfl⟩) | (go_at_call 24; refine (l02Word_any _ _).mono ?_; rintro e w1 ⟨rfl, rfl⟩) | (go_at_call 25; refine (l02Flag_any _ _).mono ?_; rintro e w1 ⟨rfl, rfl⟩))
        go_ret
        exact ⟨by rw [e.out]; rfl, (HB _).out⟩
      · have hk' : (p.kind == 0) = false := beq_eq_false_iff_ne.2 hk
        have hkn : (p.kind != 0) = true := by rw [bne, hk']; rfl
        have e : Hid (rightB p = false) := by unfold Hid rightB tcpB udpB pingB; simp_all
        go_enter Tryd.func11, Tryd.ntmps11
        go_wp2_with (first | (go_at_call 17; refine (l02Addr_any _ _).mono ?_; rintro e w1 ⟨rfl, rfl⟩) | (go_at_call 24; refine (l02Word_any _ _).mono ?_; rintro e w1 ⟨rfl, rfl⟩) | (go_at_call 25; refine (l02Flag_any _ _).mono ?_; rintro e w1 ⟨rfl, rfl⟩))
        go_ret
        exact ⟨by rw [e.out]; rfl, (HB _).out⟩
    · have p6' : (p.proto == 6) = false := beq_eq_false_iff_ne.2 p6
      by_cases p17 : p.proto = 17
      · have p17' : (p.proto == 17) = true := beq_iff_eq.2 p17
        cases ha : wordB p.a
        · have e : Hid (rightB p = false) := by unfold Hid rightB tcpB udpB pingB; simp_all
          go_enter Tryd.func11, Tryd.ntmps11
          go_wp2_with (first | (go_at_call 17; refine (l02Addr_any _ _).mono ?_; rintro e w1 ⟨rfl, rfl⟩) | (go_at_call 24; refine (l02Word_any _ _).mono ?_; rintro e w1 ⟨rfl, rfl⟩) | (go_at_call 25; refine (l02Flag_any _ _).mono ?_; rintro e w1 ⟨rfl, rfl⟩))
          go_ret
          exact ⟨by rw [e.out]; rfl, (HB _).out⟩
        cases hb : wordB p.b
        · have e : Hid (rightB p = false) := by unfold Hid rightB tcpB udpB pingB; simp_all
          go_enter Tryd.func11, Tryd.ntmps11
          go_wp2_with (first | (go_at_call 17; refine (l02Addr_any _ _).mono ?_; rintro e w1 ⟨rfl, rfl⟩) | (go_at_call 24; refine (l02Word_any _ _).mono ?_; rintro e w1 ⟨rfl, rfl⟩) | (go_at_call 25; refine (l02Flag_any _ _).mono ?_; rintro e w1 ⟨rfl, rfl⟩))
          go_ret
          exact ⟨by rw [e.out]; rfl, (HB _).out⟩
        by_cases hk : p.kind = 0
        · have hk' : (p.kind == 0) = true := beq_iff_eq.2 hk
          have hkn : (p.kind != 0) = false := by rw [bne, hk']; rfl
          by_cases hf : p.flags = 0
          · have hf' : (p.flags == 0) = true := beq_iff_eq.2 hf
            have hfn : (p.flags != 0) = false := by rw [bne, hf']; rfl
            by_cases hq : p.seq = 0
            · have hq' : (p.seq == 0) = true := beq_iff_eq.2 hq
              have hqn : (p.seq != 0) = false := by rw [bne, hq']; rfl
              by_cases hc : p.ack = 0
              · have hc' : (p.ack == 0) = true := beq_iff_eq.2 hc
                have hcn : (p.ack != 0) = false := by rw [bne, hc']; rfl
                have e : Hid (rightB p = true) := by unfold Hid rightB tcpB udpB pingB; simp_all
                go_enter Tryd.func11, Tryd.ntmps11
                go_wp2_with (first | (go_at_call 17; refine (l02Addr_any _ _).mono ?_; rintro e w1 ⟨rfl, rfl⟩) | (go_at_call 24; refine (l02Word_any _ _).mono ?_; rintro e w1 ⟨rfl, rfl⟩) | (go_at_call 25; refine (l02Flag_any _ _).mono ?_; rintro e w1 ⟨rfl, rfl⟩))
                go_ret
                exact ⟨by rw [e.out]; rfl, (HB _).out⟩
              · have hc' : (p.ack == 0) = false := beq_eq_false_iff_ne.2 hc
                have hcn : (p.ack != 0) = true := by rw [bne, hc']; rfl
                have e : Hid (rightB p = false) := by unfold Hid rightB tcpB udpB pingB; simp_all
                go_enter Tryd.func11, Tryd.ntmps11
                go_wp2_with (first | (go_at_call 17; refine (l02Addr_any _ _).mono ?_; rintro e w1 ⟨rfl, rfl⟩) | (go_at_call 24; refine (l02Word_any _ _).mono ?_; rintro e w1 ⟨rfl, rfl⟩) | (go_at_call 25; refine (l02Flag_any _ _).mono ?_; rintro e w1 ⟨rfl, rfl⟩))
                go_ret
                exact ⟨by rw [e.out]; rfl, (HB _).out⟩
            · have hq' : (p.seq == 0) = false := beq_eq_false_iff_ne.2 hq
              have hqn : (p.seq != 0) = true := by rw [bne, hq']; rfl
              have e : Hid (rightB p = false) := by unfold Hid rightB tcpB udpB pingB; simp_all
              go_enter Tryd.func11, Tryd.ntmps11
              go_wp2_with (first | (go_at_call 17; refine (l02Addr_any _ _).mono ?_; rintro e w1 ⟨rfl, rfl⟩) | (go_at_call 24; refine (l02Word_any _ _).mono ?_; rintro e w1 ⟨rfl, rfl⟩) | (go_at_call 25; refine (l02Flag_any _ _).mono ?_; rintro e w1 ⟨rfl, rfl⟩))
              go_ret
              exact ⟨by rw [e.out]; rfl, (HB _).out⟩
          · have hf' : (p.flags == 0) = false := beq_eq_false_iff_ne.2 hf
            have hfn : (p.flags != 0) = true := by rw [bne, hf']; rfl
            have e : Hid (rightB p = false) := by unfold Hid rightB tcpB udpB pingB; simp_all
            go_enter Tryd.func11, Tryd.ntmps11
            go_wp2_with (first | (go_at_call 17; refine (l02Addr_any _ _).mono ?_; rintro e w1 ⟨rfl, rfl⟩) | (go_at_call 24; refine (l02Word_any _ _).mono ?_; rintro e w1 ⟨rfl, rfl⟩) | (go_at_call 25; refine (l02Flag_any _ _).mono ?_; rintro e w1 ⟨rfl, rfl⟩))
            go_ret
            exact ⟨by rw [e.out]; rfl, (HB _).out⟩
        · have hk' : (p.kind == 0) = false := beq_eq_false_iff_ne.2 hk
          have hkn : (p.kind != 0) = true := by rw [bne, hk']; rfl
          have e : Hid (rightB p = false) := by unfold Hid rightB tcpB udpB pingB; simp_all
          go_enter Tryd.func11, Tryd.ntmps11
          go_wp2_with (first | (go_at_call 17; refine (l02Addr_any _ _).mono ?_; rintro e w1 ⟨rfl, rfl⟩) | (go_at_call 24; refine (l02Word_any _ _).mono ?_; rintro e w1 ⟨rfl, rfl⟩) | (go_at_call 25; refine (l02Flag_any _ _).mono ?_; rintro e w1 ⟨rfl, rfl⟩))
          go_ret
          exact ⟨by rw [e.out]; rfl, (HB _).out⟩
      · have p17' : (p.proto == 17) = false := beq_eq_false_iff_ne.2 p17
        by_cases p1 : p.proto = 1
        · have p1' : (p.proto == 1) = true := beq_iff_eq.2 p1
          by_cases hb : p.b = 0
          · have hb' : (p.b == 0) = true := beq_iff_eq.2 hb
            have hbn : (p.b != 0) = false := by rw [bne, hb']; rfl
            by_cases hf : p.flags = 0
            · have hf' : (p.flags == 0) = true := beq_iff_eq.2 hf
              have hfn : (p.flags != 0) = false := by rw [bne, hf']; rfl
              by_cases hc : p.ack = 0
              · have hc' : (p.ack == 0) = true := beq_iff_eq.2 hc
                have hcn : (p.ack != 0) = false := by rw [bne, hc']; rfl
                by_cases h3 : p.kind = 3
                · have h3' : (p.kind == 3) = true := beq_iff_eq.2 h3
                  by_cases ha : p.a = 0
                  · have ha' : (p.a == 0) = true := beq_iff_eq.2 ha
                    have han : (p.a != 0) = false := by rw [bne, ha']; rfl
                    by_cases hq : p.seq = 0
                    · have hq' : (p.seq == 0) = true := beq_iff_eq.2 hq
                      have hqn : (p.seq != 0) = false := by rw [bne, hq']; rfl
                      by_cases hz : 28 ≤ p.body.size
                      · have hzd : decide ((28 : Int) ≤ (p.body.size : Int)) = true := by simp; omega
                        have e : Hid (rightB p = true) := by unfold Hid rightB tcpB udpB pingB; simp_all
                        go_enter Tryd.func11, Tryd.ntmps11
                        go_wp2_with (first | (go_at_call 17; refine (l02Addr_any _ _).mono ?_; rintro e w1 ⟨rfl, rfl⟩) | (go_at_call 24; refine (l02Word_any _ _).mono ?_; rintro e w1 ⟨rfl, rfl⟩) | (go_at_call 25; refine (l02Flag_any _ _).mono ?_; rintro e w1 ⟨rfl, rfl⟩))
                        go_ret
                        exact ⟨by rw [e.out]; rfl, (HB _).out⟩
                      · have hzd : decide ((28 : Int) ≤ (p.body.size : Int)) = false := by simp; omega
                        have e : Hid (rightB p = false) := by unfold Hid rightB tcpB udpB pingB; simp_all
                        go_enter Tryd.func11, Tryd.ntmps11
                        go_wp2_with (first | (go_at_call 17; refine (l02Addr_any _ _).mono ?_; rintro e w1 ⟨rfl, rfl⟩) | (go_at_call 24; refine (l02Word_any _ _).mono ?_; rintro e w1 ⟨rfl, rfl⟩) | (go_at_call 25; refine (l02Flag_any _ _).mono ?_; rintro e w1 ⟨rfl, rfl⟩))
                        go_ret
                        exact ⟨by rw [e.out]; rfl, (HB _).out⟩
                    · have hq' : (p.seq == 0) = false := beq_eq_false_iff_ne.2 hq
                      have hqn : (p.seq != 0) = true := by rw [bne, hq']; rfl
                      have e : Hid (rightB p = false) := by unfold Hid rightB tcpB udpB pingB; simp_all
                      go_enter Tryd.func11, Tryd.ntmps11
                      go_wp2_with (first | (go_at_call 17; refine (l02Addr_any _ _).mono ?_; rintro e w1 ⟨rfl, rfl⟩) | (go_at_call 24; refine (l02Word_any _ _).mono ?_; rintro e w1 ⟨rfl, rfl⟩) | (go_at_call 25; refine (l02Flag_any _ _).mono ?_; rintro e w1 ⟨rfl, rfl⟩))
                      go_ret
                      exact ⟨by rw [e.out]; rfl, (HB _).out⟩
                  · have ha' : (p.a == 0) = false := beq_eq_false_iff_ne.2 ha
                    have han : (p.a != 0) = true := by rw [bne, ha']; rfl
                    have e : Hid (rightB p = false) := by unfold Hid rightB tcpB udpB pingB; simp_all
                    go_enter Tryd.func11, Tryd.ntmps11
                    go_wp2_with (first | (go_at_call 17; refine (l02Addr_any _ _).mono ?_; rintro e w1 ⟨rfl, rfl⟩) | (go_at_call 24; refine (l02Word_any _ _).mono ?_; rintro e w1 ⟨rfl, rfl⟩) | (go_at_call 25; refine (l02Flag_any _ _).mono ?_; rintro e w1 ⟨rfl, rfl⟩))
                    go_ret
                    exact ⟨by rw [e.out]; rfl, (HB _).out⟩
                · have h3' : (p.kind == 3) = false := beq_eq_false_iff_ne.2 h3
                  by_cases h8 : p.kind = 8
                  · have h8' : (p.kind == 8) = true := beq_iff_eq.2 h8
                    cases ha : wordB p.a
                    · have e : Hid (rightB p = false) := by unfold Hid rightB tcpB udpB pingB; simp_all
                      go_enter Tryd.func11, Tryd.ntmps11
                      go_wp2_with (first | (go_at_call 17; refine (l02Addr_any _ _).mono ?_; rintro e w1 ⟨rfl, rfl⟩) | (go_at_call 24; refine (l02Word_any _ _).mono ?_; rintro e w1 ⟨rfl, rfl⟩) | (go_at_call 25; refine (l02Flag_any _ _).mono ?_; rintro e w1 ⟨rfl, rfl⟩))
                      go_ret
                      exact ⟨by rw [e.out]; rfl, (HB _).out⟩
                    cases hq : wordB p.seq
                    · have e : Hid (rightB p = false) := by unfold Hid rightB tcpB udpB pingB; simp_all
                      go_enter Tryd.func11, Tryd.ntmps11
                      go_wp2_with (first | (go_at_call 17; refine (l02Addr_any _ _).mono ?_; rintro e w1 ⟨rfl, rfl⟩) | (go_at_call 24; refine (l02Word_any _ _).mono ?_; rintro e w1 ⟨rfl, rfl⟩) | (go_at_call 25; refine (l02Flag_any _ _).mono ?_; rintro e w1 ⟨rfl, rfl⟩))
                      go_ret
                      exact ⟨by rw [e.out]; rfl, (HB _).out⟩
                    have e : Hid (rightB p = true) := by unfold Hid rightB tcpB udpB pingB; simp_all
                    go_enter Tryd.func11, Tryd.ntmps11
                    go_wp2_with (first | (go_at_call 17; refine (l02Addr_any _ _).mono ?_; rintro e w1 ⟨rfl, rfl⟩) | (go_at_call 24; refine (l02Word_any _ _).mono ?_; rintro e w1 ⟨rfl, rfl⟩) | (go_at_call 25; refine (l02Flag_any _ _).mono ?_; rintro e w1 ⟨rfl, rfl⟩))
                    go_ret
                    exact ⟨by rw [e.out]; rfl, (HB _).out⟩
                  · have h8' : (p.kind == 8) = false := beq_eq_false_iff_ne.2 h8
                    by_cases h0 : p.kind = 0
                    · have h0' : (p.kind == 0) = true := beq_iff_eq.2 h0
                      have h0n : (p.kind != 0) = false := by rw [bne, h0']; rfl
                      cases ha : wordB p.a
                      · have e : Hid (rightB p = false) := by unfold Hid rightB tcpB udpB pingB; simp_all
                        go_enter Tryd.func11, Tryd.ntmps11
                        go_wp2_with (first | (go_at_call 17; refine (l02Addr_any _ _).mono ?_; rintro e w1 ⟨rfl, rfl⟩) | (go_at_call 24; refine (l02Word_any _ _).mono ?_; rintro e w1 ⟨rfl, rfl⟩) | (go_at_call 25; refine (l02Flag_any _ _).mono ?_; rintro e w1 ⟨rfl, rfl⟩))
                        go_ret
                        exact ⟨by rw [e.out]; rfl, (HB _).out⟩
                      cases hq : wordB p.seq
                      · have e : Hid (rightB p = false) := by unfold Hid rightB tcpB udpB pingB; simp_all
                        go_enter Tryd.func11, Tryd.ntmps11
                        go_wp2_with (first | (go_at_call 17; refine (l02Addr_any _ _).mono ?_; rintro e w1 ⟨rfl, rfl⟩) | (go_at_call 24; refine (l02Word_any _ _).mono ?_; rintro e w1 ⟨rfl, rfl⟩) | (go_at_call 25; refine (l02Flag_any _ _).mono ?_; rintro e w1 ⟨rfl, rfl⟩))
                        go_ret
                        exact ⟨by rw [e.out]; rfl, (HB _).out⟩
                      have e : Hid (rightB p = true) := by unfold Hid rightB tcpB udpB pingB; simp_all
                      go_enter Tryd.func11, Tryd.ntmps11
                      go_wp2_with (first | (go_at_call 17; refine (l02Addr_any _ _).mono ?_; rintro e w1 ⟨rfl, rfl⟩) | (go_at_call 24; refine (l02Word_any _ _).mono ?_; rintro e w1 ⟨rfl, rfl⟩) | (go_at_call 25; refine (l02Flag_any _ _).mono ?_; rintro e w1 ⟨rfl, rfl⟩))
                      go_ret
                      exact ⟨by rw [e.out]; rfl, (HB _).out⟩
                    · have h0' : (p.kind == 0) = false := beq_eq_false_iff_ne.2 h0
                      have h0n : (p.kind != 0) = true := by rw [bne, h0']; rfl
                      have e : Hid (rightB p = false) := by unfold Hid rightB tcpB udpB pingB; simp_all
                      go_enter Tryd.func11, Tryd.ntmps11
                      go_wp2_with (first | (go_at_call 17; refine (l02Addr_any _ _).mono ?_; rintro e w1 ⟨rfl, rfl⟩) | (go_at_call 24; refine (l02Word_any _ _).mono ?_; rintro e w1 ⟨rfl, rfl⟩) | (go_at_call 25; refine (l02Flag_any _ _).mono ?_; rintro e w1 ⟨rfl, rfl⟩))
                      go_ret
                      exact ⟨by rw [e.out]; rfl, (HB _).out⟩
              · have hc' : (p.ack == 0) = false := beq_eq_false_iff_ne.2 hc
                have hcn : (p.ack != 0) = true := by rw [bne, hc']; rfl
                have e : Hid (rightB p = false) := by unfold Hid rightB tcpB udpB pingB; simp_all
                go_enter Tryd.func11, Tryd.ntmps11
                go_wp2_with (first | (go_at_call 17; refine (l02Addr_any _ _).mono ?_; rintro e w1 ⟨rfl, rfl⟩) | (go_at_call 24; refine (l02Word_any _ _).mono ?_; rintro e w1 ⟨rfl, rfl⟩) | (go_at_call 25; refine (l02Flag_any _ _).mono ?_; rintro e w1 ⟨rfl, rfl⟩))
                go_ret
                exact ⟨by rw [e.out]; rfl, (HB _).out⟩
            · have hf' : (p.flags == 0) = false := beq_eq_false_iff_ne.2 hf
              have hfn : (p.flags != 0) = true := by rw [bne, hf']; rfl
              have e : Hid (rightB p = false) := by unfold Hid rightB tcpB udpB pingB; simp_all
              go_enter Tryd.func11, Tryd.ntmps11
              go_wp2_with (first | (go_at_call 17; refine (l02Addr_any _ _).mono ?_; rintro e w1 ⟨rfl, rfl⟩) | (go_at_call 24; refine (l02Word_any _ _).mono ?_; rintro e w1 ⟨rfl, rfl⟩) | (go_at_call 25; refine (l02Flag_any _ _).mono ?_; rintro e w1 ⟨rfl, rfl⟩))
              go_ret
              exact ⟨by rw [e.out]; rfl, (HB _).out⟩
          · have hb' : (p.b == 0) = false := beq_eq_false_iff_ne.2 hb
            have hbn : (p.b != 0) = true := by rw [bne, hb']; rfl
            have e : Hid (rightB p = false) := by unfold Hid rightB tcpB udpB pingB; simp_all
            go_enter Tryd.func11, Tryd.ntmps11
            go_wp2_with (first | (go_at_call 17; refine (l02Addr_any _ _).mono ?_; rintro e w1 ⟨rfl, rfl⟩) | (go_at_call 24; refine (l02Word_any _ _).mono ?_; rintro e w1 ⟨rfl, rfl⟩) | (go_at_call 25; refine (l02Flag_any _ _).mono ?_; rintro e w1 ⟨rfl, rfl⟩))
            go_ret
            exact ⟨by rw [e.out]; rfl, (HB _).out⟩
        · have p1' : (p.proto == 1) = false := beq_eq_false_iff_ne.2 p1
          have e : Hid (rightB p = false) := by unfold Hid rightB tcpB udpB pingB; simp_all
          go_enter Tryd.func11, Tryd.ntmps11
          go_wp2_with (first | (go_at_call 17; refine (l02Addr_any _ _).mono ?_; rintro e w1 ⟨rfl, rfl⟩) | (go_at_call 24; refine (l02Word_any _ _).mono ?_; rintro e w1 ⟨rfl, rfl⟩) | (go_at_call 25; refine (l02Flag_any _ _).mono ?_; rintro e w1 ⟨rfl, rfl⟩))
          go_ret
          exact ⟨by rw [e.out]; rfl, (HB _).out⟩
  · have e : Hid (rightB p = false) := by unfold Hid rightB; rw [show decide (p.body.size ≤ 100) = false from by simp; omega]; simp
    go_enter Tryd.func11, Tryd.ntmps11
    go_wp2_with (first | (go_at_call 17; refine (l02Addr_any _ _).mono ?_; rintro e w1 ⟨rfl, rfl⟩) | (go_at_call 24; refine (l02Word_any _ _).mono ?_; rintro e w1 ⟨rfl, rfl⟩) | (go_at_call 25; refine (l02Flag_any _ _).mono ?_; rintro e w1 ⟨rfl, rfl⟩))
    go_ret
    exact ⟨by rw [e.out]; rfl, (HB _).out⟩
end Go.Proofs.YthfhbmiddillbafDoor
end

section
namespace Go.Proofs.YthfhbmiddillbafDoor
open Go.ChangeShapes Go.WideShapes Go.ChangeAt Go.RowKit
set_option linter.unusedVariables false
set_option maxRecDepth 100000

theorem bytesOf_place {p : Pk} (h : Fine p) : placeN p.proto + 2 ≤ (bytesOf p).size := by
  have hz : (bytesOf p).size = 20 + (tailT p (checkT p).toNat).size := by unfold bytesOf; rw [ByteArray.size_append, headT_size]
  rw [hz]
  generalize (checkT p).toNat = c
  have h2 : (⟨#[0, 0]⟩ : ByteArray).size = 2 := rfl
  rcases h.proto with q | q | q
  · have e : placeN p.proto = 36 := by unfold placeN; rw [if_pos q]
    have e2 : (tailT p c).size = 20 + p.body.size := by
      unfold tailT; rw [if_pos q]
      simp only [ByteArray.size_append, twoT_size, fourT_size, rowT_size, List.length_cons, List.length_nil, h2]
    omega
  · have e : placeN p.proto = 26 := by unfold placeN; rw [if_neg (by omega), if_pos q]
    have e2 : (tailT p c).size = 8 + p.body.size := by
      unfold tailT; rw [if_neg (by omega), if_pos q]
      simp only [ByteArray.size_append, twoT_size]
    omega
  · have e : placeN p.proto = 22 := by unfold placeN; rw [if_neg (by omega), if_neg (by omega)]
    have e2 : (tailT p c).size = 8 + p.body.size := by
      unfold tailT; rw [if_neg (by omega), if_neg (by omega)]
      split <;> simp only [ByteArray.size_append, twoT_size, rowT_size, List.length_cons, List.length_nil]
    omega
theorem bytesOf_small {p : Pk} (h : Fine p) : (bytesOf p).size ≤ 140 := by
  have hz : (bytesOf p).size = 20 + (tailT p (checkT p).toNat).size := by unfold bytesOf; rw [ByteArray.size_append, headT_size]
  have := h.small (checkT p).toNat
  omega
theorem readPk_body (s : ByteArray) : (readPk s).body.size ≤ s.size := by
  unfold readPk
  split
  · split
    · exact Nat.zero_le _
    · simp
  · split <;> simp

/-- the code that PacketRead is to answer for a text of 28 to 8000 bytes -/
def codeOf (p : Pk) (s : ByteArray) : Int :=
  if rightB p = false then 3
  else if (bytesOf p).size ≠ s.size ∨ ((blankT (bytesOf p) (placeN p.proto)).toList == (blankT s (placeN p.proto)).toList) = false then 3
  else if ((bytesOf p).toList == s.toList) = false then 5 else 0
/-- .. and the packet beside it -/
def pkOf (p : Pk) (s : ByteArray) : Pk := if codeOf p s = 0 then p else zeroPk
/-- what PacketRead is to answer -/
def readC (s : ByteArray) : Int := if 8000 < s.size then 2 else if s.size < 28 then 4 else codeOf (readPk s) s
def readP (s : ByteArray) : Pk := if 8000 < s.size ∨ s.size < 28 then zeroPk else pkOf (readPk s) s

theorem Two3.later {g k : Nat} {v : Value} {W0 W W' : World} (h : W.cell? ⟨g, k, none⟩ = some v ∧ Below W0.heap.size W0 W) (hb : Below W.heap.size W W') : W'.cell? ⟨g, k, none⟩ = some v ∧ Below W0.heap.size W0 W' :=
  ⟨(hb.cell (p := ⟨g, k, none⟩) (World.block_lt_of_cell? W ⟨g, k, none⟩ h.1)).trans h.1, h.2.trans (hb.mono h.2.size)⟩

set_option maxHeartbeats 2000000 in
theorem specRead_in (s : ByteArray) (w : World) (h1 : 28 ≤ s.size) (hs : s.size ≤ 8000) :
    Calls Tryd.prog 5 #[.string s] w fun e w' => e = .returned (.agg #[.int .i64 (pkOf (readPk s) s).src, .int .i64 (pkOf (readPk s) s).dst, .int .i64 (pkOf (readPk s) s).proto, .int .i64 (pkOf (readPk s) s).a, .int .i64 (pkOf (readPk s) s).b, .int .i64 (pkOf (readPk s) s).kind, .int .i64 (pkOf (readPk s) s).flags, .int .i64 (pkOf (readPk s) s).seq, .int .i64 (pkOf (readPk s) s).ack, .string (pkOf (readPk s) s).body, .int .i64 (codeOf (readPk s) s)]) ∧ Below w.heap.size w w' := by
  have hpb : (readPk s).body.size ≤ maxLen := by have := readPk_body s; unfold maxLen; omega
  have hR := hidS (fun W => l03Read_any s W h1 hs)
  generalize readPk s = p at hpb hR ⊢
  have hG := heap_newG w (.cells #[.int .i64 0, .int .i64 0, .int .i64 0, .int .i64 0, .int .i64 0, .int .i64 0, .int .i64 0, .int .i64 0, .int .i64 0, .string ⟨#[]⟩, .int .i64 0] 25)
  have hL := hidS ((Below.refl w.heap.size w).alloc (Nat.le_refl _) (.cells #[.int .i64 0, .int .i64 0, .int .i64 0, .int .i64 0, .int .i64 0, .int .i64 0, .int .i64 0, .int .i64 0, .int .i64 0, .string ⟨#[]⟩, .int .i64 0] 25))
  go_enter Tryd.func5, Tryd.ntmps5
  go_wp2_with fail
  generalize w.alloc (.cells #[.int .i64 0, .int .i64 0, .int .i64 0, .int .i64 0, .int .i64 0, .int .i64 0, .int .i64 0, .int .i64 0, .int .i64 0, .string ⟨#[]⟩, .int .i64 0] 25) = w1 at hG hL ⊢
  refine (hR.out _).mono ?_
  rintro _ w2 ⟨rfl, hb2⟩
  have hG2 := blk_later hG hb2
  have hL2 := hidS (hL.out.trans (hb2.mono hL.out.size))
  have hgl := blk_lt hG2
  clear hG hL hb2
  go_wp2_with fail
  have hP3 := PkAt.new p w2
  have hG3 := blk_alloc hG2 (.cells #[.int .i64 p.src, .int .i64 p.dst, .int .i64 p.proto, .int .i64 p.a, .int .i64 p.b, .int .i64 p.kind, .int .i64 p.flags, .int .i64 p.seq, .int .i64 p.ack, .string p.body] 23)
  have hL3 := hidS (hL2.out.alloc (Nat.le_of_lt hgl) (.cells #[.int .i64 p.src, .int .i64 p.dst, .int .i64 p.proto, .int .i64 p.a, .int .i64 p.b, .int .i64 p.kind, .int .i64 p.flags, .int .i64 p.seq, .int .i64 p.ack, .string p.body] 23))
  generalize w2.alloc (.cells #[.int .i64 p.src, .int .i64 p.dst, .int .i64 p.proto, .int .i64 p.a, .int .i64 p.b, .int .i64 p.kind, .int .i64 p.flags, .int .i64 p.seq, .int .i64 p.ack, .string p.body] 23) = w3 at hP3 hG3 hL3 ⊢
  clear hG2 hL2
  refine (specRight_any p _ hpb).mono ?_
  rintro _ w4 ⟨rfl, hb4⟩
  have hP4 := hP3.later hb4
  have hG4 := blk_later hG3 hb4
  have hL4 := hidS (hL3.out.trans (hb4.mono hL3.out.size))
  clear hP3 hG3 hL3 hb4
  cases hr : rightB p
  · have e1 : Hid (codeOf p s = 3) := if_pos hr
    have e2 : Hid (pkOf p s = zeroPk) := if_neg (by rw [e1.out]; decide)
    have g0 := blk_cell hG4
    have gf := blk_free hG4
    clear hP4
    go_wp2
    refine bodyPost_ret (v := .agg #[.int .i64 0, .int .i64 0, .int .i64 0, .int .i64 0, .int .i64 0, .int .i64 0, .int .i64 0, .int .i64 0, .int .i64 0, .string ⟨#[]⟩, .int .i64 3]) (by simp [results, Tryd.results5, go_sem, g0]) rfl ⟨by rw [e1.out, e2.out]; rfl, ?_⟩
    iterate 11 (refine below_at ?_ (Nat.le_refl _))
    exact hL4.out
  · have HP4 := hidS hP4
    obtain ⟨c0, c1, c2, c3, c4, c5, c6, c7, c8, c9⟩ := hP4
    have hF := hidS (fine_of hr)
    go_wp2_with fail
    refine (l03Bytes_any p _ hF.out).mono ?_
    have hC1 : Hid (∀ u, bytesOf p = u → codeOf p s = if u.size ≠ s.size ∨ ((blankT u (placeN p.proto)).toList == (blankT s (placeN p.proto)).toList) = false then 3 else if (u.toList == s.toList) = false then 5 else 0) := fun u hu => by subst hu; unfold codeOf; rw [if_neg (by rw [hr]; decide)]
    have hpl := bytesOf_place hF.out
    have hsm := bytesOf_small hF.out
    generalize hbt : bytesOf p = t at hpl hsm ⊢
    have hC2 := hidS (hC1.out t hbt)
    clear hC1 hbt
    rintro _ w5 ⟨rfl, hb5⟩
    have hP5 := HP4.out.later hb5
    have hG5 := blk_later hG4 hb5
    have hL5 := hidS (hL4.out.trans (hb5.mono hL4.out.size))
    clear HP4 hG4 hL4 hb5 c0 c1 c2 c3 c4 c5 c6 c7 c8 c9
    have HP5 := hidS hP5
    obtain ⟨c0, c1, c2, c3, c4, c5, c6, c7, c8, c9⟩ := hP5
    by_cases hz : t.size = s.size
    · have hz1 : ((t.size : Int) != (s.size : Int)) = false := by rw [hz]; simp
      have hst : t.size ≤ 8000 := by omega
      have hps : placeN p.proto + 2 ≤ s.size := by omega
      clear c0 c1 c3 c4 c5 c6 c7 c8 c9
      go_wp2_with fail
      go_region_held3 (fun W => W.cell? ⟨w2.heap.size, 2, none⟩ = some (.int .i64 p.proto) ∧ Below w5.heap.size w5 W) (first | assumption | exact ⟨c2, (Below.refl _ _).drew⟩) (first | (go_at_call 13; refine (l03Blank_any _ _ _ (by assumption) (by assumption)).mono ?_; rintro _ x ⟨rfl, hx⟩; have hS := Two3.later (by assumption) hx; clear hx))
      have hP6 := HP5.out.later hS.2
      have hG6 := blk_later hG5 hS.2
      have hL6 := hidS (hL5.out.trans (hS.2.mono hL5.out.size))
      clear hS c2 HP5 hG5 hL5 hpl hps hst hsm
      generalize hbe : ((blankT t (placeN p.proto)).toList == (blankT s (placeN p.proto)).toList) = be at hC2 ⊢
      clear hbe
      cases be
      · have e1 : Hid (codeOf p s = 3) := by rw [hC2.out, if_pos (.inr rfl)]; rfl
        have e2 : Hid (pkOf p s = zeroPk) := if_neg (by rw [e1.out]; decide)
        have g0 := blk_cell hG6
        have gf := blk_free hG6
        go_wp2
        refine bodyPost_ret (v := .agg #[.int .i64 0, .int .i64 0, .int .i64 0, .int .i64 0, .int .i64 0, .int .i64 0, .int .i64 0, .int .i64 0, .int .i64 0, .string ⟨#[]⟩, .int .i64 3]) (by simp [results, Tryd.results5, go_sem, g0]) rfl ⟨by rw [e1.out, e2.out]; rfl, ?_⟩
        iterate 11 (refine below_at ?_ (Nat.le_refl _))
        exact hL6.out
      · have e0 : Hid (codeOf p s = if (t.toList == s.toList) = false then 5 else 0) := by rw [hC2.out, if_neg (by rw [hz]; simp)]; rfl
        clear hC2
        cases hts : (t.toList == s.toList)
        · have e1 : Hid (codeOf p s = 5) := by rw [e0.out, hts]; rfl
          have e2 : Hid (pkOf p s = zeroPk) := if_neg (by rw [e1.out]; decide)
          have g0 := blk_cell hG6
          have gf := blk_free hG6
          clear e0
          go_wp2
          refine bodyPost_ret (v := .agg #[.int .i64 0, .int .i64 0, .int .i64 0, .int .i64 0, .int .i64 0, .int .i64 0, .int .i64 0, .int .i64 0, .int .i64 0, .string ⟨#[]⟩, .int .i64 5]) (by simp [results, Tryd.results5, go_sem, g0]) rfl ⟨by rw [e1.out, e2.out]; rfl, ?_⟩
          iterate 11 (refine below_at ?_ (Nat.le_refl _))
          exact hL6.out
        · have e1 : Hid (codeOf p s = 0) := by rw [e0.out, hts]; rfl
          have e2 : Hid (pkOf p s = p) := if_pos e1.out
          have g0 := blk_cell hG6
          have gf := blk_free hG6
          clear e0
          obtain ⟨c0, c1, c2, c3, c4, c5, c6, c7, c8, c9⟩ := hP6
          go_wp2
          refine bodyPost_ret (v := .agg #[.int .i64 p.src, .int .i64 p.dst, .int .i64 p.proto, .int .i64 p.a, .int .i64 p.b, .int .i64 p.kind, .int .i64 p.flags, .int .i64 p.seq, .int .i64 p.ack, .string p.body, .int .i64 (0)]) (by simp [results, Tryd.results5, go_sem, g0]) rfl ⟨by rw [e1.out, e2.out], ?_⟩
          iterate 11 (refine below_at ?_ (Nat.le_refl _))
          exact hL6.out
    · have hz1 : ((t.size : Int) != (s.size : Int)) = true := by simp; omega
      have e1 : Hid (codeOf p s = 3) := by rw [hC2.out, if_pos (.inl hz)]; rfl
      have e2 : Hid (pkOf p s = zeroPk) := if_neg (by rw [e1.out]; decide)
      have g0 := blk_cell hG5
      have gf := blk_free hG5
      clear c0 c1 c3 c4 c5 c6 c7 c8 c9 hC2 hz hpl hsm
      go_wp2_with fail
      go_quiet (fail)
      go_wp2
      refine bodyPost_ret (v := .agg #[.int .i64 0, .int .i64 0, .int .i64 0, .int .i64 0, .int .i64 0, .int .i64 0, .int .i64 0, .int .i64 0, .int .i64 0, .string ⟨#[]⟩, .int .i64 3]) (by simp [results, Tryd.results5, go_sem, g0]) rfl ⟨by rw [e1.out, e2.out]; rfl, ?_⟩
      iterate 11 (refine below_at ?_ (Nat.le_refl _))
      exact hL5.out.trans ⟨rfl, rfl, rfl, Nat.le_refl _, fun _ _ => rfl⟩

theorem specRead_any (s : ByteArray) (w : World) (hs : s.size ≤ maxLen) :
    Calls Tryd.prog 5 #[.string s] w fun e w' => e = .returned (.agg #[.int .i64 (readP s).src, .int .i64 (readP s).dst, .int .i64 (readP s).proto, .int .i64 (readP s).a, .int .i64 (readP s).b, .int .i64 (readP s).kind, .int .i64 (readP s).flags, .int .i64 (readP s).seq, .int .i64 (readP s).ack, .string (readP s).body, .int .i64 (readC s)]) ∧ Below w.heap.size w w' := by
  have hs' : s.size ≤ 2 ^ 63 - 1 := hs
  by_cases h1 : 8000 < s.size
  · have e1 : readC s = 2 := if_pos h1
    have e2 : readP s = zeroPk := if_pos (.inl h1)
    rw [e1, e2]
    clear e1 e2
    go_enter Tryd.func5, Tryd.ntmps5
    go_wp2
    go_returns
    exact ⟨rfl, by go_grown⟩
  by_cases h2 : s.size < 28
  · have e1 : readC s = 4 := by unfold readC; rw [if_neg h1, if_pos h2]
    have e2 : readP s = zeroPk := if_pos (.inr h2)
    rw [e1, e2]
    clear e1 e2
    go_enter Tryd.func5, Tryd.ntmps5
    go_wp2
    go_returns
    exact ⟨rfl, by go_grown⟩
  · have e1 : readC s = codeOf (readPk s) s := by unfold readC; rw [if_neg h1, if_neg h2]
    have e2 : readP s = pkOf (readPk s) s := if_neg (by omega)
    rw [e1, e2]
    exact specRead_in s w (by omega) (by omega)
end Go.Proofs.YthfhbmiddillbafDoor
end

section
namespace Go.Proofs.YthfhbmiddillbafDoor
open Go.ChangeShapes Go.WideShapes Go.ChangeAt Go.RowKit
set_option linter.unusedVariables false

theorem numN_one (s : ByteArray) (k : Nat) : numN s k 1 = byteN s k := by simp [numN]
theorem numN_two (s : ByteArray) (k : Nat) : numN s k 2 = word2 s k := by simp [numN, word2]
theorem numN_four (s : ByteArray) (k : Nat) : numN s k 4 = word4 s k := by simp [numN, word4, word2, Nat.add_assoc]; omega
theorem byteN_list (s : ByteArray) (k : Nat) : byteN s k = (s.data.toList.getD k 0).toNat := by
  unfold byteN
  rw [Array.getD_eq_getD_getElem?, List.getD_eq_getElem?_getD, Array.getElem?_toList]
theorem ext_list (s : ByteArray) (a b : Nat) : (s.extract a b).data.toList = (s.data.toList.drop a).take (b - a) := by
  rw [ByteArray.data_extract, Array.toList_extract, List.extract_eq_take_drop]
theorem byteN_ext (s : ByteArray) (a j : Nat) : byteN (s.extract a s.size) j = byteN s (a + j) := by
  rw [byteN_list, byteN_list, ext_list]
  have e : (s.data.toList.drop a).take (s.size - a) = s.data.toList.drop a := List.take_of_length_le (by simp)
  rw [e, List.getD_eq_getElem?_getD, List.getD_eq_getElem?_getD, List.getElem?_drop]
theorem word2_ext (s : ByteArray) (a j : Nat) : word2 (s.extract a s.size) j = word2 s (a + j) := by
  unfold word2; rw [byteN_ext, byteN_ext, Nat.add_assoc]
theorem word4_ext (s : ByteArray) (a j : Nat) : word4 (s.extract a s.size) j = word4 s (a + j) := by
  unfold word4; rw [word2_ext, word2_ext, Nat.add_assoc]
theorem body_ext (s : ByteArray) (a b : Nat) (h : a + b ≤ s.size) : (s.extract a s.size).extract (min b (s.extract a s.size).size) (s.extract a s.size).size = s.extract (a + b) s.size := by
  have hz : (s.extract a s.size).size = s.size - a := by simp
  rw [hz, ByteArray.extract_extract, Nat.min_eq_left (by omega), show a + (s.size - a) = s.size by omega, Nat.min_self]
theorem scan_read (s : ByteArray) (h1 : 28 ≤ s.size) (hp : byteN s 9 = 6 ∧ 40 ≤ s.size ∨ byteN s 9 = 17 ∨ byteN s 9 = 1) : scanPk s = readPk s := by
  unfold scanPk scanOf readPk
  simp only [numN_one, numN_two, numN_four, byteN_ext, word2_ext, word4_ext]
  rcases hp with ⟨h6, h40⟩ | h17 | h1'
  · rw [if_pos h6, if_pos h6, if_neg (by omega), body_ext s 20 20 h40, h6]; rfl
  · rw [if_neg (by omega), if_pos h17, if_neg (by omega), if_pos h17, body_ext s 20 8 h1, h17]; rfl
  · rw [if_neg (by omega), if_neg (by omega), if_pos h1', if_neg (by omega), if_neg (by omega), body_ext s 20 8 h1, h1']; rfl
theorem scan_proto (s : ByteArray) : (scanPk s).proto = (byteN s 9 : Int) := by
  unfold scanPk scanOf
  rw [numN_one]
  split
  · rename_i h; rw [h]; rfl
  · split
    · rename_i h; rw [h]; rfl
    · split
      · rename_i h; rw [h]; rfl
      · rfl
theorem scan_short (s : ByteArray) (h : s.size < 40) (h6 : byteN s 9 = 6) : (scanPk s).body.size = 0 := by
  unfold scanPk scanOf
  rw [numN_one, if_pos h6]
  simp; omega

theorem putAt_fit (m l : List UInt8) (k : Nat) (h : k < l.length) (h2 : m.length ≤ l.length - k) : putAt m l k = over l k m := by
  unfold putAt; rw [if_pos h, List.take_of_length_le h2]
/-- a text with two words as 0 -/
theorem put_two (l : List UInt8) (k : Nat) (h12 : 12 ≤ k) (hk : k + 2 ≤ l.length) :
    putAll (twoT 0).data.toList l [10, k] = l.take 10 ++ [0, 0] ++ (l.drop 12).take (k - 12) ++ [0, 0] ++ l.drop (k + 2) := by
  have z : (twoT 0).data.toList = [0, 0] := rfl
  have e1 : putAt [0, 0] l 10 = l.take 10 ++ [0, 0] ++ l.drop 12 := putAt_fit [0, 0] l 10 (by omega) (by show 2 ≤ _; omega)
  have hl : (putAt [0, 0] l 10).length = l.length := putAt_length _ _ _
  show putAt (twoT 0).data.toList (putAt (twoT 0).data.toList l 10) k = _
  rw [z]
  have e2 : putAt [0, 0] (putAt [0, 0] l 10) k = (putAt [0, 0] l 10).take k ++ [0, 0] ++ (putAt [0, 0] l 10).drop (k + 2) := putAt_fit [0, 0] _ k (by omega) (by show 2 ≤ _; omega)
  rw [e2, e1]
  have hA : (l.take 10 ++ [0, 0]).length = 12 := by simp; omega
  have t1 : (l.take 10 ++ [0, 0] ++ l.drop 12).take k = l.take 10 ++ [0, 0] ++ (l.drop 12).take (k - 12) := by
    rw [List.take_append, hA, List.take_of_length_le (by omega)]
  have t2 : (l.take 10 ++ [0, 0] ++ l.drop 12).drop (k + 2) = l.drop (k + 2) := by
    rw [List.drop_append, hA, List.drop_eq_nil_of_le (by omega), List.nil_append, List.drop_drop]
    congr 1; omega
  rw [t1, t2]
theorem blank_list (s : ByteArray) (k : Nat) (h12 : 12 ≤ k) (hk : k + 2 ≤ s.size) : (blankT s k).toList = s.data.toList.take 10 ++ (s.data.toList.drop 12).take (k - 12) ++ s.data.toList.drop (k + 2) := by
  rw [ByteArray.toList_eq]
  unfold blankT
  rw [ByteArray.data_append, ByteArray.data_append, Array.toList_append, Array.toList_append, ext_list, ext_list, ext_list]
  congr 1
  exact List.take_of_length_le (by simp)
theorem put_blank (a s : ByteArray) (k : Nat) (h12 : 12 ≤ k) (hk : k + 2 ≤ a.size) :
    putAll (twoT 0).data.toList a.data.toList [10, k] = putAll (twoT 0).data.toList s.data.toList [10, k] ↔ a.size = s.size ∧ (blankT a k).toList = (blankT s k).toList := by
  have ha : a.data.toList.length = a.size := by simp
  have hs : s.data.toList.length = s.size := by simp
  constructor
  · intro h
    have hl : a.size = s.size := by
      have := congrArg List.length h
      rw [putAll_length, putAll_length, ha, hs] at this
      exact this
    refine ⟨hl, ?_⟩
    rw [put_two _ k h12 (by omega), put_two _ k h12 (by omega)] at h
    rw [blank_list a k h12 (by omega), blank_list s k h12 (by omega)]
    obtain ⟨h, h5⟩ := List.append_inj h (by simp; omega)
    obtain ⟨h, _⟩ := List.append_inj h (by simp; omega)
    obtain ⟨h, h3⟩ := List.append_inj h (by simp; omega)
    obtain ⟨h, _⟩ := List.append_inj h (by simp; omega)
    rw [h, h3, h5]
  · rintro ⟨hl, h⟩
    rw [blank_list a k h12 (by omega), blank_list s k h12 (by omega)] at h
    rw [put_two _ k h12 (by omega), put_two _ k h12 (by omega)]
    obtain ⟨h, h5⟩ := List.append_inj h (by simp; omega)
    obtain ⟨h, h3⟩ := List.append_inj h (by simp; omega)
    rw [h, h3, h5]
theorem put_length_ne (a s : ByteArray) (ks : List Nat) (h : a.size ≠ s.size) : (putAll (twoT 0).data.toList a.data.toList ks == putAll (twoT 0).data.toList s.data.toList ks) = false := by
  rw [beq_eq_false_iff_ne]
  intro e
  have := congrArg List.length e
  rw [putAll_length, putAll_length] at this
  exact h (by simpa using this)
theorem place_ge (n : Int) : 12 ≤ placeN n := by unfold placeN; split; omega; split <;> omega
theorem place_le (n : Int) : placeN n ≤ 100 := by unfold placeN; split; omega; split <;> omega
theorem bytesAns_no {p : Pk} (h : rightB p = false) : bytesAns p = ⟨#[]⟩ := if_neg (by rw [h]; simp)
theorem bytesAns_yes {p : Pk} (h : rightB p = true) : bytesAns p = bytesOf p := if_pos h
theorem codeOf_no {p : Pk} {s : ByteArray} (h : rightB p = false) : codeOf p s = 3 := if_pos h

/-- what readPacket finds is what is to be answered -/
theorem read_eq (s : ByteArray) (h1 : 28 ≤ s.size) (hs : s.size ≤ 8000) (b1 b2 : Bool)
    (hb1 : (putAll (twoT 0).data.toList (bytesAns (scanPk s)).data.toList [10, placeN (scanPk s).proto] == putAll (twoT 0).data.toList s.data.toList [10, placeN (scanPk s).proto]) = b1)
    (hb2 : ((bytesAns (scanPk s)).toList == s.toList) = b2) :
    (b1 = false → readC s = 3 ∧ readP s = zeroPk) ∧ (b1 = true → b2 = false → readC s = 5 ∧ readP s = zeroPk) ∧ (b1 = true → b2 = true → readC s = 0 ∧ readP s = scanPk s) := by
  have eC : readC s = codeOf (readPk s) s := by unfold readC; rw [if_neg (by omega), if_neg (by omega)]
  have eP : readP s = pkOf (readPk s) s := if_neg (by omega)
  rw [eC, eP]
  have hz : ∀ c, c ≠ 0 → codeOf (readPk s) s = c → pkOf (readPk s) s = zeroPk := fun c hc h => if_neg (by rw [h]; exact hc)
  -- where the two answers are both 'syntax'
  have bad : codeOf (readPk s) s = 3 → (bytesAns (scanPk s)).size ≠ s.size → (b1 = false → codeOf (readPk s) s = 3 ∧ pkOf (readPk s) s = zeroPk) ∧ (b1 = true → b2 = false → codeOf (readPk s) s = 5 ∧ pkOf (readPk s) s = zeroPk) ∧ (b1 = true → b2 = true → codeOf (readPk s) s = 0 ∧ pkOf (readPk s) s = scanPk s) := by
    intro h3 hne
    rw [put_length_ne _ _ _ hne] at hb1
    subst hb1
    exact ⟨fun _ => ⟨h3, hz 3 (by decide) h3⟩, fun h _ => absurd h (by decide), fun h _ => absurd h (by decide)⟩
  have e0 : (⟨#[]⟩ : ByteArray).size = 0 := rfl
  by_cases hp : byteN s 9 = 6 ∧ 40 ≤ s.size ∨ byteN s 9 = 17 ∨ byteN s 9 = 1
  · have e := scan_read s h1 hp
    rw [e] at hb1 hb2 bad ⊢
    cases hr : rightB (readPk s)
    · exact bad (codeOf_no hr) (by rw [bytesAns_no hr, e0]; omega)
    · rw [bytesAns_yes hr] at hb1 hb2 bad
      have hpl := bytesOf_place (fine_of hr)
      have hiff := put_blank (bytesOf (readPk s)) s (placeN (readPk s).proto) (place_ge _) hpl
      have hcode : codeOf (readPk s) s = if (bytesOf (readPk s)).size ≠ s.size ∨ ((blankT (bytesOf (readPk s)) (placeN (readPk s).proto)).toList == (blankT s (placeN (readPk s).proto)).toList) = false then 3 else if ((bytesOf (readPk s)).toList == s.toList) = false then 5 else 0 := if_neg (by rw [hr]; simp)
      cases b1
      · have hno := beq_eq_false_iff_ne.1 hb1
        have h3 : codeOf (readPk s) s = 3 := by
          rw [hcode]
          refine if_pos ?_
          by_cases hsz : (bytesOf (readPk s)).size = s.size
          · right
            rw [beq_eq_false_iff_ne]
            exact fun e => hno (hiff.2 ⟨hsz, e⟩)
          · exact .inl hsz
        exact ⟨fun _ => ⟨h3, hz 3 (by decide) h3⟩, fun h _ => absurd h (by decide), fun h _ => absurd h (by decide)⟩
      · obtain ⟨hsz, hbl⟩ := hiff.1 (beq_iff_eq.1 hb1)
        rw [if_neg (by rw [hbl]; simp [hsz]), hb2] at hcode
        refine ⟨fun h => absurd h (by decide), fun _ h2 => ?_, fun _ h2 => ?_⟩
        · subst h2
          have h5 : codeOf (readPk s) s = 5 := by rw [hcode]; rfl
          exact ⟨h5, hz 5 (by decide) h5⟩
        · subst h2
          have h0 : codeOf (readPk s) s = 0 := by rw [hcode]; rfl
          exact ⟨h0, if_pos h0⟩
  · by_cases h6 : byteN s 9 = 6
    · have hlt : s.size < 40 := by omega
      have hrz : rightB (readPk s) = false := by
        have : readPk s = ⟨0, 0, 0, 0, 0, 0, 0, 0, 0, ⟨#[]⟩⟩ := by unfold readPk; rw [if_pos h6, if_pos hlt]
        rw [this]; rfl
      refine bad (codeOf_no hrz) ?_
      cases hr : rightB (scanPk s)
      · rw [bytesAns_no hr, e0]; omega
      · rw [bytesAns_yes hr]
        have := bytesOf_place (fine_of hr)
        have hpr := scan_proto s
        rw [hpr, h6] at this
        have hpl : placeN ((6 : Nat) : Int) = 36 := rfl
        have hB : 40 ≤ (bytesOf (scanPk s)).size := by
          unfold bytesOf
          rw [ByteArray.size_append, headT_size]
          have h2 : 20 ≤ (tailT (scanPk s) (checkT (scanPk s)).toNat).size := by
            unfold tailT
            rw [if_pos (by rw [hpr, h6]; rfl)]
            simp only [ByteArray.size_append, twoT_size, fourT_size, rowT_size, List.length_cons, List.length_nil]
            have : (⟨#[0, 0]⟩ : ByteArray).size = 2 := rfl
            omega
          omega
        omega
    · have h17 : byteN s 9 ≠ 17 := fun h => hp (.inr (.inl h))
      have h1' : byteN s 9 ≠ 1 := fun h => hp (.inr (.inr h))
      have hr : rightB (scanPk s) = false := right_none _ (by rw [scan_proto]; omega) (by rw [scan_proto]; omega) (by rw [scan_proto]; omega)
      have hr2 : rightB (readPk s) = false := by
        have : (readPk s).proto = (byteN s 9 : Int) := by unfold readPk; rw [if_neg h6, if_neg h17]
        exact right_none _ (by rw [this]; omega) (by rw [this]; omega) (by rw [this]; omega)
      exact bad (codeOf_no hr2) (by rw [bytesAns_no hr, e0]; omega)
end Go.Proofs.YthfhbmiddillbafDoor
end

section
namespace Go.Proofs.YthfhbmiddillbafDoor
open Go.ChangeShapes Go.WideShapes Go.ChangeAt Go.RowKit
set_option linter.unusedVariables false
set_option linter.unusedSimpArgs false

set_option maxHeartbeats 2000000 in
theorem packAns_x (p : Pk) (err : Value) (c : Int) (w : World) (hCO : ∀ W, Below w.heap.size w W → Calls Tryd.prog 31 #[err] W fun e w' => e = .returned (.int .i64 c) ∧ Below W.heap.size W w') :
    Calls Tryd.prog 14 #[.agg #[.int .i64 p.src, .int .i64 p.dst, .int .i64 p.proto, .int .i64 p.a, .int .i64 p.b, .int .i64 p.kind, .int .i64 p.flags, .int .i64 p.seq, .int .i64 p.ack, .string p.body], err] w fun e w' => e = .returned (.agg #[.int .i64 p.src, .int .i64 p.dst, .int .i64 p.proto, .int .i64 p.a, .int .i64 p.b, .int .i64 p.kind, .int .i64 p.flags, .int .i64 p.seq, .int .i64 p.ack, .string p.body, .int .i64 (c)]) ∧ Below w.heap.size w w' := by
  have HCO := hidS hCO
  clear hCO
  have HP : Hid (PkAt w.heap.size p ((w.alloc (.cells #[.int .i64 p.src, .int .i64 p.dst, .int .i64 p.proto, .int .i64 p.a, .int .i64 p.b, .int .i64 p.kind, .int .i64 p.flags, .int .i64 p.seq, .int .i64 p.ack, .string p.body] 23)).alloc (.cells #[.int .i64 0, .int .i64 0, .int .i64 0, .int .i64 0, .int .i64 0, .int .i64 0, .int .i64 0, .int .i64 0, .int .i64 0, .string ⟨#[]⟩, .int .i64 0] 25))) := (PkAt.new p w).later ((Below.refl _ _).alloc (Nat.le_refl _) _)
  have hG : ((w.alloc (.cells #[.int .i64 p.src, .int .i64 p.dst, .int .i64 p.proto, .int .i64 p.a, .int .i64 p.b, .int .i64 p.kind, .int .i64 p.flags, .int .i64 p.seq, .int .i64 p.ack, .string p.body] 23)).alloc (.cells #[.int .i64 0, .int .i64 0, .int .i64 0, .int .i64 0, .int .i64 0, .int .i64 0, .int .i64 0, .int .i64 0, .int .i64 0, .string ⟨#[]⟩, .int .i64 0] 25)).heap[w.heap.size + 1]? = some (.cells #[.int .i64 0, .int .i64 0, .int .i64 0, .int .i64 0, .int .i64 0, .int .i64 0, .int .i64 0, .int .i64 0, .int .i64 0, .string ⟨#[]⟩, .int .i64 0] 25) := by
    have := heap_newG (w.alloc (.cells #[.int .i64 p.src, .int .i64 p.dst, .int .i64 p.proto, .int .i64 p.a, .int .i64 p.b, .int .i64 p.kind, .int .i64 p.flags, .int .i64 p.seq, .int .i64 p.ack, .string p.body] 23)) (.cells #[.int .i64 0, .int .i64 0, .int .i64 0, .int .i64 0, .int .i64 0, .int .i64 0, .int .i64 0, .int .i64 0, .int .i64 0, .string ⟨#[]⟩, .int .i64 0] 25)
    simpa using this
  have hB1 := hidS (((Below.refl w.heap.size w).alloc (Nat.le_refl _) (.cells #[.int .i64 p.src, .int .i64 p.dst, .int .i64 p.proto, .int .i64 p.a, .int .i64 p.b, .int .i64 p.kind, .int .i64 p.flags, .int .i64 p.seq, .int .i64 p.ack, .string p.body] 23)).alloc (by simp) (.cells #[.int .i64 0, .int .i64 0, .int .i64 0, .int .i64 0, .int .i64 0, .int .i64 0, .int .i64 0, .int .i64 0, .int .i64 0, .string ⟨#[]⟩, .int .i64 0] 25))
  have HG := hidS hG
  clear hG
  go_enter Tryd.func14, Tryd.ntmps14
  go_wp2_with fail
  generalize (w.alloc (.cells #[.int .i64 p.src, .int .i64 p.dst, .int .i64 p.proto, .int .i64 p.a, .int .i64 p.b, .int .i64 p.kind, .int .i64 p.flags, .int .i64 p.seq, .int .i64 p.ack, .string p.body] 23)).alloc (.cells #[.int .i64 0, .int .i64 0, .int .i64 0, .int .i64 0, .int .i64 0, .int .i64 0, .int .i64 0, .int .i64 0, .int .i64 0, .string ⟨#[]⟩, .int .i64 0] 25) = w1 at HP hB1 HG ⊢
  refine grow_into 4 _ [.is (.agg #[.int .i64 p.src, .int .i64 p.dst, .int .i64 p.proto, .int .i64 p.a, .int .i64 p.b, .int .i64 p.kind, .int .i64 p.flags, .int .i64 p.seq, .int .i64 p.ack, .string p.body]), .is (err), .is (.int .i64 (c)), .is (.agg #[.int .i64 p.src, .int .i64 p.dst, .int .i64 p.proto, .int .i64 p.a, .int .i64 p.b, .int .i64 p.kind, .int .i64 p.flags, .int .i64 p.seq, .int .i64 p.ack, .string p.body, .int .i64 (c)])] 3 4 8 25 25 ((w.heap.size + 1)) #[.int .i64 0, .int .i64 0, .int .i64 0, .int .i64 0, .int .i64 0, .int .i64 0, .int .i64 0, .int .i64 0, .int .i64 0, .string ⟨#[]⟩, .int .i64 0] #[.int .i64 p.src, .int .i64 p.dst, .int .i64 p.proto, .int .i64 p.a, .int .i64 p.b, .int .i64 p.kind, .int .i64 p.flags, .int .i64 p.seq, .int .i64 p.ack, .string p.body, .int .i64 (c)] rfl rfl rfl (by kernel_rfl) (by kernel_rfl) (by kernel_rfl) rfl rfl (by decide) (by kernel_rfl) (by kernel_rfl) (by decide) HG.out (by kernel_rfl) (by kernel_rfl) (by first | kernel_rfl | simp [Value.oneCell']) (by kernel_rfl) ?steps ?fin
  case steps =>
    refine ⟨?_, ?_, ?_, ?_, trivial⟩
    · refine ⟨rfl, fun v W ρ hC kc kf ks ki kd => ?_⟩
      have t2 : ρ (.tmp 2) = .pointer (some ⟨w.heap.size, 0, none⟩) := ki 2 (by decide)
      have hp := HP.out.later hC
      obtain ⟨c0, c1, c2, c3, c4, c5, c6, c7, c8, c9⟩ := hp
      simp [execOp, go_sem, t2, c0, c1, c2, c3, c4, c5, c6, c7, c8, c9]
      exact ⟨hC, Below.refl _ _, rfl⟩
    · refine ⟨rfl, fun v W ρ hC kc kf ks ki kd => ?_⟩
      have t1 : ρ (.tmp 1) = err := ki 1 (by decide)
      simp [execOp, go_sem, t1]
      exact ⟨hC, Below.refl _ _, rfl⟩
    · refine ⟨rfl, fun v W ρ hC kc kf ks ki kd => ?_⟩
      have d1 : v 1 = err := kd _ (Array.mem_of_getElem? (i := 0) rfl) rfl
      have t6 : ρ (.tmp 6) = v 1 := ks 1 6 (by decide) rfl
      rw [d1] at t6
      simp [execOp, go_sem, t6, kf]
      exact Calls.mono (HCO.out _ (hB1.out.trans (hC.mono hB1.out.size))) (fun e x h => ⟨_, h.1, hC.trans (h.2.mono hC.size), h.2, rfl⟩)
    · refine ⟨rfl, fun v W ρ hC kc kf ks ki kd => ?_⟩
      have d0 : v 0 = .agg #[.int .i64 p.src, .int .i64 p.dst, .int .i64 p.proto, .int .i64 p.a, .int .i64 p.b, .int .i64 p.kind, .int .i64 p.flags, .int .i64 p.seq, .int .i64 p.ack, .string p.body] := kd _ (Array.mem_of_getElem? (i := 0) rfl) rfl
      have t5 : ρ (.tmp 5) = v 0 := ks 0 5 (by decide) rfl
      rw [d0] at t5
      have d2 : v 2 = .int .i64 (c) := kd _ (Array.mem_of_getElem? (i := 1) rfl) rfl
      have t7 : ρ (.tmp 7) = v 2 := ks 2 7 (by decide) rfl
      rw [d2] at t7
      simp [execOp, go_sem, t5, t7]
      exact ⟨hC, Below.refl _ _, rfl⟩
  case fin =>
    intro v W hLW hgW hall
    simp [upto, Act.put]
    clear hall
    have hE := hidS (hB1.out.trans (hLW w.heap.size (by omega)))
    have hc := blk_cell hgW
    clear hLW hgW HG HP hB1 HCO
    go_wp2_with fail
    exact bodyPost_ret (v := .agg #[.int .i64 p.src, .int .i64 p.dst, .int .i64 p.proto, .int .i64 p.a, .int .i64 p.b, .int .i64 p.kind, .int .i64 p.flags, .int .i64 p.seq, .int .i64 p.ack, .string p.body, .int .i64 (c)]) (by simp [results, Tryd.results14, go_sem, hc]) rfl ⟨rfl, hE.out⟩
end Go.Proofs.YthfhbmiddillbafDoor
end
