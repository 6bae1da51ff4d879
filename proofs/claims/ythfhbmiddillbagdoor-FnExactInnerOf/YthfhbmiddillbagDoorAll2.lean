/- Proved here: spec.l02Addr and spec.PacketRight answer whether an address, a packet is right; all old memory stays (condition: the body is a string). · Proved here: small facts on a block of a call's own: its cells, what a store leaves (no program of its own). · Proved here: spec.ErrorOf answers the error that is told of a right packet, or why not; all old memory stays (condition: the body is a string). · Proved here: impl.partOf answers what stands behind a packet's head, by its Proto; all old memory stays (no conditions). · Proved here: impl.areWords answers whether all of a row are words, and leaves memory alone (condition: at most 1000 of them). · Proved here: impl.areAddrs answers whether all of a row are addresses, and leaves memory alone (condition: at most 1000 of them). · Proved here: what the parts' methods right and fields answer; all old memory stays (condition: a body is a string). · Proved here: which method of a part is called by its name (closed facts on the program's own table). · Proved here: impl.PacketRight answers whether a packet is right; all old memory stays (condition: the body is a string). · Proved here: impl.PacketRight answers whether a packet is right, whatever its Proto; all old memory stays (condition: the body is a string). · Proved here: small facts on byte slices of a call's own: what is written stays, a byte appended, the slice turned into a string. · Proved here: impl.joinTexts of two texts returns the one followed by the other, and leaves all old memory alone (condition: the list of parts has these two strings, together of at most 2^40 bytes). · Proved here: impl.joinTexts returns its texts, one behind another, and leaves all old memory alone (condition: the list holds these strings, at most 1000 of at most 100000 bytes). · Proved here: what WordText answers, of impl; all old memory stays (no conditions). · Proved here: impl.longText answers the four bytes of a number; all old memory stays (condition: the number is an address). · Proved here: a row of bytes that may be written, and what 'copy' of a string leaves of it (no program of its own). -/
import Derived.Test.YthfhbmiddillbagDoorAll0
import Derived.Test.YthfhbmiddillbagDoorAll1
import Derived.Test.YthfhbmiddillbagDoorRows
import Derived.WalkKit
import Derived.WalkSpells
import Derived.ProofKit
import Derived.OpenShut
import Derived.ShutString
import Derived.Handy
import Derived.Below
import Derived.Laws.BitsAllLaws
import Derived.Laws.IdiomStrings
import Derived.Lib.LazyBuf
import Derived.Lib.SlBuf
import Derived.Deep.Upon
section
namespace Go.Proofs.YthfhbmiddillbagDoor
open Go.ChangeShapes Go.WideShapes Go.ChangeAt Go.RowKit
open Go.ChangeMaps (open_string shut_string)
set_option linter.unusedVariables false

theorem l02Addr_any (n : Int) (w : World) :
    Calls Tryd.prog 22 #[.int .i64 n] w fun e w' => e = .returned (.bool (addrB n)) ∧ w' = w := by
  go_enter Tryd.func22, Tryd.ntmps22
  go_wp2_with fail
  refine (l02Is_any n 0 4294967295 _).mono ?_
  rintro e w1 ⟨rfl, rfl⟩
  go_wp2
  go_ret
  exact ⟨rfl, rfl⟩

theorem l02Flag_any (n : Int) (w : World) :
    Calls Tryd.prog 38 #[.int .i64 n, .int .i64 0, .int .i64 63] w fun e w' => e = .returned (.bool (flagB n)) ∧ w' = w := l02Is_any n 0 63 w

set_option maxHeartbeats 4000000 in
theorem specRight_any (p : Pk) (w : World) (hs : p.body.size ≤ maxLen) :
    Calls Tryd.prog 21 #[.agg #[.int .i64 p.src, .int .i64 p.dst, .int .i64 p.proto, .int .i64 p.a, .int .i64 p.b, .int .i64 p.kind, .int .i64 p.flags, .int .i64 p.seq, .int .i64 p.ack, .string p.body]] w fun e w' => e = .returned (.bool (rightB p)) ∧ Below w.heap.size w w' := by
  have hs' : p.body.size ≤ 2 ^ 63 - 1 := hs
  have HB := fun o => hidS ((Below.refl w.heap.size w).alloc (Nat.le_refl _) o)
  cases h1 : addrB p.src
  · have e : Hid (rightB p = false) := by unfold Hid rightB tcpB udpB pingB; simp_all
    go_enter Tryd.func21, Tryd.ntmps21
    go_wp2_with (first | (go_at_call 22; refine (l02Addr_any _ _).mono ?_; rintro e w1 ⟨rfl, rfl⟩) | (go_at_call 37; refine (l02Word_any _ _).mono ?_; rintro e w1 ⟨rfl, rfl⟩) | (go_at_call 38; refine (l02Flag_any _ _).mono ?_; rintro e w1 ⟨rfl, rfl⟩))
    go_ret
    exact ⟨by rw [e.out]; rfl, (HB _).out⟩
  cases h2 : addrB p.dst
  · have e : Hid (rightB p = false) := by unfold Hid rightB tcpB udpB pingB; simp_all
    go_enter Tryd.func21, Tryd.ntmps21
    go_wp2_with (first | (go_at_call 22; refine (l02Addr_any _ _).mono ?_; rintro e w1 ⟨rfl, rfl⟩) | (go_at_call 37; refine (l02Word_any _ _).mono ?_; rintro e w1 ⟨rfl, rfl⟩) | (go_at_call 38; refine (l02Flag_any _ _).mono ?_; rintro e w1 ⟨rfl, rfl⟩))
    go_ret
    exact ⟨by rw [e.out]; rfl, (HB _).out⟩
  by_cases hz0 : p.body.size ≤ 100
  · by_cases p6 : p.proto = 6
    · have p6' : (p.proto == 6) = true := beq_iff_eq.2 p6
      cases ha : wordB p.a
      · have e : Hid (rightB p = false) := by unfold Hid rightB tcpB udpB pingB; simp_all
        go_enter Tryd.func21, Tryd.ntmps21
        go_wp2_with (first | (go_at_call 22; refine (l02Addr_any _ _).mono ?_; rintro e w1 ⟨rfl, rfl⟩) | (go_at_call 37; refine (l02Word_any _ _).mono ?_; rintro e w1 ⟨rfl, rfl⟩) | (go_at_call 38; refine (l02Flag_any _ _).mono ?_; rintro e w1 ⟨rfl, rfl⟩))
        go_ret
        exact ⟨by rw [e.out]; rfl, (HB _).out⟩
      cases hb : wordB p.b
      · have e : Hid (rightB p = false) := by unfold Hid rightB tcpB udpB pingB; simp_all
        go_enter Tryd.func21, Tryd.ntmps21
        go_wp2_with (first | (go_at_call 22; refine (l02Addr_any _ _).mono ?_; rintro e w1 ⟨rfl, rfl⟩) | (go_at_call 37; refine (l02Word_any _ _).mono ?_; rintro e w1 ⟨rfl, rfl⟩) | (go_at_call 38; refine (l02Flag_any _ _).mono ?_; rintro e w1 ⟨rfl, rfl⟩))
        go_ret
        exact ⟨by rw [e.out]; rfl, (HB _).out⟩
      by_cases hk : p.kind = 0
      · have hk' : (p.kind == 0) = true := beq_iff_eq.2 hk
        have hkn : (p.kind != 0) = false := by rw [bne, hk']; rfl
        cases hf : flagB p.flags
        · have e : Hid (rightB p = false) := by unfold Hid rightB tcpB udpB pingB; simp_all
          go_enter Tryd.func21, Tryd.ntmps21
          go_wp2_with (first | (go_at_call 22; refine (l02Addr_any _ _).mono ?_; rintro e w1 ⟨rfl, rfl⟩) | (go_at_call 37; refine (l02Word_any _ _).mono ?_; rintro e w1 ⟨rfl, rfl⟩) | (go_at_call 38; refine (l02Flag_any _ _).mono ?_; rintro e w1 ⟨rfl, rfl⟩))
          go_ret
          exact ⟨by rw [e.out]; rfl, (HB _).out⟩
        cases hq : addrB p.seq
        · have e : Hid (rightB p = false) := by unfold Hid rightB tcpB udpB pingB; simp_all
          go_enter Tryd.func21, Tryd.ntmps21
          go_wp2_with (first | (go_at_call 22; refine (l02Addr_any _ _).mono ?_; rintro e w1 ⟨rfl, rfl⟩) | (go_at_call 37; refine (l02Word_any _ _).mono ?_; rintro e w1 ⟨rfl, rfl⟩) | (go_at_call 38; refine (l02Flag_any _ _).mono ?_; rintro e w1 ⟨rfl, rfl⟩))
          go_ret
          exact ⟨by rw [e.out]; rfl, (HB _).out⟩
        cases hc : addrB p.ack
        · have e : Hid (rightB p = false) := by unfold Hid rightB tcpB udpB pingB; simp_all
          go_enter Tryd.func21, Tryd.ntmps21
          go_wp2_with (first | (go_at_call 22; refine (l02Addr_any _ _).mono ?_; rintro e w1 ⟨rfl, rfl⟩) | (go_at_call 37; refine (l02Word_any _ _).mono ?_; rintro e w1 ⟨rfl, rfl⟩) | (go_at_call 38; refine (l02Flag_any _ _).mono ?_; rintro e w1 ⟨rfl, rfl⟩))
          go_ret
          exact ⟨by rw [e.out]; rfl, (HB _).out⟩
        have e : Hid (rightB p = true) := by unfold Hid rightB tcpB udpB pingB; simp_all
        go_enter Tryd.func21, Tryd.ntmps21
        go_wp2_with (first | (go_at_call 22; refine (l02Addr_any _ _).mono ?_; rintro e w1 ⟨rfl, rfl⟩) | (go_at_call 37; refine (l02Word_any _ _).mono ?_; rintro e w1 ⟨rfl, rfl⟩) | (go_at_call 38; refine (l02Flag_any _ _).mono ?_; rintro e w1 ⟨rfl, rfl⟩))
        go_ret
        exact ⟨by rw [e.out]; rfl, (HB _).out⟩
      · have hk' : (p.kind == 0) = false := beq_eq_false_iff_ne.2 hk
        have hkn : (p.kind != 0) = true := by rw [bne, hk']; rfl
        have e : Hid (rightB p = false) := by unfold Hid rightB tcpB udpB pingB; simp_all
        go_enter Tryd.func21, Tryd.ntmps21
        go_wp2_with (first | (go_at_call 22; refine (l02Addr_any _ _).mono ?_; rintro e w1 ⟨rfl, rfl⟩) | (go_at_call 37; refine (l02Word_any _ _).mono ?_; rintro e w1 ⟨rfl, rfl⟩) | (go_at_call 38; refine (l02Flag_any _ _).mono ?_; rintro e w1 ⟨rfl, rfl⟩))
        go_ret
        exact ⟨by rw [e.out]; rfl, (HB _).out⟩
    · have p6' : (p.proto == 6) = false := beq_eq_false_iff_ne.2 p6
      by_cases p17 : p.proto = 17
      · have p17' : (p.proto == 17) = true := beq_iff_eq.2 p17
        cases ha : wordB p.a
        · have e : Hid (rightB p = false) := by unfold Hid rightB tcpB udpB pingB; simp_all
          go_enter Tryd.func21, Tryd.ntmps21
          go_wp2_with (first | (go_at_call 22; refine (l02Addr_any _ _).mono ?_; rintro e w1 ⟨rfl, rfl⟩) | (go_at_call 37; refine (l02Word_any _ _).mono ?_; rintro e w1 ⟨rfl, rfl⟩) | (go_at_call 38; refine (l02Flag_any _ _).mono ?_; rintro e w1 ⟨rfl, rfl⟩))
          go_ret
          exact ⟨by rw [e.out]; rfl, (HB _).out⟩
        cases hb : wordB p.b
        · have e : Hid (rightB p = false) := by unfold Hid rightB tcpB udpB pingB; simp_all
          go_enter Tryd.func21, Tryd.ntmps21
          go_wp2_with (first | (go_at_call 22; refine (l02Addr_any _ _).mono ?_; rintro e w1 ⟨rfl, rfl⟩) | (go_at_call 37; refine (l02Word_any _ _).mono ?_; rintro e w1 ⟨rfl, rfl⟩) | (go_at_call 38; refine (l02Flag_any _ _).mono ?_; rintro e w1 ⟨rfl, rfl⟩))
          go_ret
          exact ⟨by rw [e.out]; rfl, (HB _).out⟩
        by_cases hk : p.kind = 0
        · have hk' : (p.kind == 0) = true := beq_iff_eq.2 hk
          have hkn : (p.kind != 0) = false := by rw [bne, hk']; rfl
          by_cases hf : p.flags = 0
          · have hf' : (p.flags == 0) = true := beq_iff_eq.2 hf
            have hfn : (p.flags != 0) = false := by rw [bne, hf']; rfl
            by_cases hq : p.seq = 0
            · have hq' : (p.seq == 0) = true := beq_iff_eq.2 hq
              have hqn : (p.seq != 0) = false := by rw [bne, hq']; rfl
              by_cases hc : p.ack = 0
              · have hc' : (p.ack == 0) = true := beq_iff_eq.2 hc
                have hcn : (p.ack != 0) = false := by rw [bne, hc']; rfl
                have e : Hid (rightB p = true) := by unfold Hid rightB tcpB udpB pingB; simp_all
                go_enter Tryd.func21, Tryd.ntmps21
                go_wp2_with (first | (go_at_call 22; refine (l02Addr_any _ _).mono ?_; rintro e w1 ⟨rfl, rfl⟩) | (go_at_call 37; refine (l02Word_any _ _).mono ?_; rintro e w1 ⟨rfl, rfl⟩) | (go_at_call 38; refine (l02Flag_any _ _).mono ?_; rintro e w1 ⟨rfl, rfl⟩))
                go_ret
                exact ⟨by rw [e.out]; rfl, (HB _).out⟩
              · have hc' : (p.ack == 0) = false := beq_eq_false_iff_ne.2 hc
                have hcn : (p.ack != 0) = true := by rw [bne, hc']; rfl
                have e : Hid (rightB p = false) := by unfold Hid rightB tcpB udpB pingB; simp_all
                go_enter Tryd.func21, Tryd.ntmps21
                go_wp2_with (first | (go_at_call 22; refine (l02Addr_any _ _).mono ?_; rintro e w1 ⟨rfl, rfl⟩) | (go_at_call 37; refine (l02Word_any _ _).mono ?_; rintro e w1 ⟨rfl, rfl⟩) | (go_at_call 38; refine (l02Flag_any _ _).mono ?_; rintro e w1 ⟨rfl, rfl⟩))
                go_ret
                exact ⟨by rw [e.out]; rfl, (HB _).out⟩
            · have hq' : (p.seq == 0) = false := beq_eq_false_iff_ne.2 hq
              have hqn : (p.seq != 0) = true := by rw [bne, hq']; rfl
              have e : Hid (rightB p = false) := by unfold Hid rightB tcpB udpB pingB; simp_all
              go_enter Tryd.func21, Tryd.ntmps21
              go_wp2_with (first | (go_at_call 22; refine (l02Addr_any _ _).mono ?_; rintro e w1 ⟨rfl, rfl⟩) | (go_at_call 37; refine (l02Word_any _ _).mono ?_; rintro e w1 ⟨rfl, rfl⟩) | (go_at_call 38; refine (l02Flag_any _ _).mono ?_; rintro e w1 ⟨rfl, rfl⟩))
              go_ret
              exact ⟨by rw [e.out]; rfl, (HB _).out⟩
          · have hf' : (p.flags == 0) = false := beq_eq_false_iff_ne.2 hf
            have hfn : (p.flags != 0) = true := by rw [bne, hf']; rfl
            have e : Hid (rightB p = false) := by unfold Hid rightB tcpB udpB pingB; simp_all
            go_enter Tryd.func21, Tryd.ntmps21
            go_wp2_with (first | (go_at_call 22; refine (l02Addr_any _ _).mono ?_; rintro e w1 ⟨rfl, rfl⟩) | (go_at_call 37; refine (l02Word_any _ _).mono ?_; rintro e w1 ⟨rfl, rfl⟩) | (go_at_call 38; refine (l02Flag_any _ _).mono ?_; rintro e w1 ⟨rfl, rfl⟩))
            go_ret
            exact ⟨by rw [e.out]; rfl, (HB _).out⟩
        · have hk' : (p.kind == 0) = false := beq_eq_false_iff_ne.2 hk
          have hkn : (p.kind != 0) = true := by rw [bne, hk']; rfl
          have e : Hid (rightB p = false) := by unfold Hid rightB tcpB udpB pingB; simp_all
          go_enter Tryd.func21, Tryd.ntmps21
          go_wp2_with (first | (go_at_call 22; refine (l02Addr_any _ _).mono ?_; rintro e w1 ⟨rfl, rfl⟩) | (go_at_call 37; refine (l02Word_any _ _).mono ?_; rintro e w1 ⟨rfl, rfl⟩) | (go_at_call 38; refine (l02Flag_any _ _).mono ?_; rintro e w1 ⟨rfl, rfl⟩))
          go_ret
          exact ⟨by rw [e.out]; rfl, (HB _).out⟩
      · have p17' : (p.proto == 17) = false := beq_eq_false_iff_ne.2 p17
        by_cases p1 : p.proto = 1
        · have p1' : (p.proto == 1) = true := beq_iff_eq.2 p1
          by_cases hb : p.b = 0
          · have hb' : (p.b == 0) = true := beq_iff_eq.2 hb
            have hbn : (p.b != 0) = false := by rw [bne, hb']; rfl
            by_cases hf : p.flags = 0
            · have hf' : (p.flags == 0) = true := beq_iff_eq.2 hf
              have hfn : (p.flags != 0) = false := by rw [bne, hf']; rfl
              by_cases hc : p.ack = 0
              · have hc' : (p.ack == 0) = true := beq_iff_eq.2 hc
                have hcn : (p.ack != 0) = false := by rw [bne, hc']; rfl
                by_cases h3 : p.kind = 3
                · have h3' : (p.kind == 3) = true := beq_iff_eq.2 h3
                  by_cases ha : p.a = 0
                  · have ha' : (p.a == 0) = true := beq_iff_eq.2 ha
                    have han : (p.a != 0) = false := by rw [bne, ha']; rfl
                    by_cases hq : p.seq = 0
                    · have hq' : (p.seq == 0) = true := beq_iff_eq.2 hq
                      have hqn : (p.seq != 0) = false := by rw [bne, hq']; rfl
                      by_cases hz : 28 ≤ p.body.size
                      · have hzd : decide ((28 : Int) ≤ (p.body.size : Int)) = true := by simp; omega
                        have e : Hid (rightB p = true) := by unfold Hid rightB tcpB udpB pingB; simp_all
                        go_enter Tryd.func21, Tryd.ntmps21
                        go_wp2_with (first | (go_at_call 22; refine (l02Addr_any _ _).mono ?_; rintro e w1 ⟨rfl, rfl⟩) | (go_at_call 37; refine (l02Word_any _ _).mono ?_; rintro e w1 ⟨rfl, rfl⟩) | (go_at_call 38; refine (l02Flag_any _ _).mono ?_; rintro e w1 ⟨rfl, rfl⟩))
                        go_ret
                        exact ⟨by rw [e.out]; rfl, (HB _).out⟩
                      · have hzd : decide ((28 : Int) ≤ (p.body.size : Int)) = false := by simp; omega
                        have e : Hid (rightB p = false) := by unfold Hid rightB tcpB udpB pingB; simp_all
                        go_enter Tryd.func21, Tryd.ntmps21
                        go_wp2_with (first | (go_at_call 22; refine (l02Addr_any _ _).mono ?_; rintro e w1 ⟨rfl, rfl⟩) | (go_at_call 37; refine (l02Word_any _ _).mono ?_; rintro e w1 ⟨rfl, rfl⟩) | (go_at_call 38; refine (l02Flag_any _ _).mono ?_; rintro e w1 ⟨rfl, rfl⟩))
                        go_ret
                        exact ⟨by rw [e.out]; rfl, (HB _).out⟩
                    · have hq' : (p.seq == 0) = false := beq_eq_false_iff_ne.2 hq
                      have hqn : (p.seq != 0) = true := by rw [bne, hq']; rfl
                      have e : Hid (rightB p = false) := by unfold Hid rightB tcpB udpB pingB; simp_all
                      go_enter Tryd.func21, Tryd.ntmps21
                      go_wp2_with (first | (go_at_call 22; refine (l02Addr_any _ _).mono ?_; rintro e w1 ⟨rfl, rfl⟩) | (go_at_call 37; refine (l02Word_any _ _).mono ?_; rintro e w1 ⟨rfl, rfl⟩) | (go_at_call 38; refine (l02Flag_any _ _).mono ?_; rintro e w1 ⟨rfl, rfl⟩))
                      go_ret
                      exact ⟨by rw [e.out]; rfl, (HB _).out⟩
                  · have ha' : (p.a == 0) = false := beq_eq_false_iff_ne.2 ha
                    have han : (p.a != 0) = true := by rw [bne, ha']; rfl
                    have e : Hid (rightB p = false) := by unfold Hid rightB tcpB udpB pingB; simp_all
                    go_enter Tryd.func21, Tryd.ntmps21
                    go_wp2_with (first | (go_at_call 22; refine (l02Addr_any _ _).mono ?_; rintro e w1 ⟨rfl, rfl⟩) | (go_at_call 37; refine (l02Word_any _ _).mono ?_; rintro e w1 ⟨rfl, rfl⟩) | (go_at_call 38; refine (l02Flag_any _ _).mono ?_; rintro e w1 ⟨rfl, rfl⟩))
                    go_ret
                    exact ⟨by rw [e.out]; rfl, (HB _).out⟩
                · have h3' : (p.kind == 3) = false := beq_eq_false_iff_ne.2 h3
                  by_cases h8 : p.kind = 8
                  · have h8' : (p.kind == 8) = true := beq_iff_eq.2 h8
                    cases ha : wordB p.a
                    · have e : Hid (rightB p = false) := by unfold Hid rightB tcpB udpB pingB; simp_all
                      go_enter Tryd.func21, Tryd.ntmps21
                      go_wp2_with (first | (go_at_call 22; refine (l02Addr_any _ _).mono ?_; rintro e w1 ⟨rfl, rfl⟩) | (go_at_call 37; refine (l02Word_any _ _).mono ?_; rintro e w1 ⟨rfl, rfl⟩) | (go_at_call 38; refine (l02Flag_any _ _).mono ?_; rintro e w1 ⟨rfl, rfl⟩))
                      go_ret
                      exact ⟨by rw [e.out]; rfl, (HB _).out⟩
                    cases hq : wordB p.seq
                    · have e : Hid (rightB p = false) := by unfold Hid rightB tcpB udpB pingB; simp_all
                      go_enter Tryd.func21, Tryd.ntmps21
                      go_wp2_with (first | (go_at_call 22; refine (l02Addr_any _ _).mono ?_; rintro e w1 ⟨rfl, rfl⟩) | (go_at_call 37; refine (l02Word_any _ _).mono ?_; rintro e w1 ⟨rfl, rfl⟩) | (go_at_call 38; refine (l02Flag_any _ _).mono ?_; rintro e w1 ⟨rfl, rfl⟩))
                      go_ret
                      exact ⟨by rw [e.out]; rfl, (HB _).out⟩
                    have e : Hid (rightB p = true) := by unfold Hid rightB tcpB udpB pingB; simp_all
                    go_enter Tryd.func21, Tryd.ntmps21
                    go_wp2_with (first | (go_at_call 22; refine (l02Addr_any _ _).mono ?_; rintro e w1 ⟨rfl, rfl⟩) | (go_at_call 37; refine (l02Word_any _ _).mono ?_; rintro e w1 ⟨rfl, rfl⟩) | (go_at_call 38; refine (l02Flag_any _ _).mono ?_; rintro e w1 ⟨rfl, rfl⟩))
                    go_ret
                    exact ⟨by rw [e.out]; rfl, (HB _).out⟩
                  · have h8' : (p.kind == 8) = false := beq_eq_false_iff_ne.2 h8
                    by_cases h0 : p.kind = 0
                    · have h0' : (p.kind == 0) = true := beq_iff_eq.2 h0
                      have h0n : (p.kind != 0) = false := by rw [bne, h0']; rfl
                      cases ha : wordB p.a
                      · have e : Hid (rightB p = false) := by unfold Hid rightB tcpB udpB pingB; simp_all
                        go_enter Tryd.func21, Tryd.ntmps21
                        go_wp2_with (first | (go_at_call 22; refine (l02Addr_any _ _).mono ?_; rintro e w1 ⟨rfl, rfl⟩) | (go_at_call 37; refine (l02Word_any _ _).mono ?_; rintro e w1 ⟨rfl, rfl⟩) | (go_at_call 38; refine (l02Flag_any _ _).mono ?_; rintro e w1 ⟨rfl, rfl⟩))
                        go_ret
                        exact ⟨by rw [e.out]; rfl, (HB _).out⟩
                      cases hq : wordB p.seq
                      · have e : Hid (rightB p = false) := by unfold Hid rightB tcpB udpB pingB; simp_all
                        go_enter Tryd.func21, Tryd.ntmps21
                        go_wp2_with (first | (go_at_call 22; refine (l02Addr_any _ _).mono ?_; rintro e w1 ⟨rfl, rfl⟩) | (go_at_call 37; refine (l02Word_any _ _).mono ?_; rintro e w1 ⟨rfl, rfl⟩) | (go_at_call 38; refine (l02Flag_any _ _).mono ?_; rintro e w1 ⟨rfl, rfl⟩))
                        go_ret
                        exact ⟨by rw [e.out]; rfl, (HB _).out⟩
                      have e : Hid (rightB p = true) := by unfold Hid rightB tcpB udpB pingB; simp_all
                      go_enter Tryd.func21, Tryd.ntmps21
                      go_wp2_with (first | (go_at_call 22; refine (l02Addr_any _ _).mono ?_; rintro e w1 ⟨rfl, rfl⟩) | (go_at_call 37; refine (l02Word_any _ _).mono ?_; rintro e w1 ⟨rfl, rfl⟩) | (go_at_call 38; refine (l02Flag_any _ _).mono ?_; rintro e w1 ⟨rfl, rfl⟩))
                      go_ret
                      exact ⟨by rw [e.out]; rfl, (HB _).out⟩
                    · have h0' : (p.kind == 0) = false := beq_eq_false_iff_ne.2 h0
                      have h0n : (p.kind != 0) = true := by rw [bne, h0']; rfl
                      have e : Hid (rightB p = false) := by unfold Hid rightB tcpB udpB pingB; simp_all
                      go_enter Tryd.func21, Tryd.ntmps21
                      go_wp2_with (first | (go_at_call 22; refine (l02Addr_any _ _).mono ?_; rintro e w1 ⟨rfl, rfl⟩) | (go_at_call 37; refine (l02Word_any _ _).mono ?_; rintro e w1 ⟨rfl, rfl⟩) | (go_at_call 38; refine (l02Flag_any _ _).mono ?_; rintro e w1 ⟨rfl, rfl⟩))
                      go_ret
                      exact ⟨by rw [e.out]; rfl, (HB _).out⟩
              · have hc' : (p.ack == 0) = false := beq_eq_false_iff_ne.2 hc
                have hcn : (p.ack != 0) = true := by rw [bne, hc']; rfl
                have e : Hid (rightB p = false) := by unfold Hid rightB tcpB udpB pingB; simp_all
                go_enter Tryd.func21, Tryd.ntmps21
                go_wp2_with (first | (go_at_call 22; refine (l02Addr_any _ _).mono ?_; rintro e w1 ⟨rfl, rfl⟩) | (go_at_call 37; refine (l02Word_any _ _).mono ?_; rintro e w1 ⟨rfl, rfl⟩) | (go_at_call 38; refine (l02Flag_any _ _).mono ?_; rintro e w1 ⟨rfl, rfl⟩))
                go_ret
                exact ⟨by rw [e.out]; rfl, (HB _).out⟩
            · have hf' : (p.flags == 0) = false := beq_eq_false_iff_ne.2 hf
              have hfn : (p.flags != 0) = true := by rw [bne, hf']; rfl
              have e : Hid (rightB p = false) := by unfold Hid rightB tcpB udpB pingB; simp_all
              go_enter Tryd.func21, Tryd.ntmps21
              go_wp2_with (first | (go_at_call 22; refine (l02Addr_any _ _).mono ?_; rintro e w1 ⟨rfl, rfl⟩) | (go_at_call 37; refine (l02Word_any _ _).mono ?_; rintro e w1 ⟨rfl, rfl⟩) | (go_at_call 38; refine (l02Flag_any _ _).mono ?_; rintro e w1 ⟨rfl, rfl⟩))
              go_ret
              exact ⟨by rw [e.out]; rfl, (HB _).out⟩
          · have hb' : (p.b == 0) = false := beq_eq_false_iff_ne.2 hb
            have hbn : (p.b != 0) = true := by rw [bne, hb']; rfl
            have e : Hid (rightB p = false) := by unfold Hid rightB tcpB udpB pingB; simp_all
            go_enter Tryd.func21, Tryd.ntmps21
            go_wp2_with (first | (go_at_call 22; refine (l02Addr_any _ _).mono ?_; rintro e w1 ⟨rfl, rfl⟩) | (go_at_call 37; refine (l02Word_any _ _).mono ?_; rintro e w1 ⟨rfl, rfl⟩) | (go_at_call 38; refine (l02Flag_any _ _).mono ?_; rintro e w1 ⟨rfl, rfl⟩))
            go_ret
            exact ⟨by rw [e.out]; rfl, (HB _).out⟩
        · have p1' : (p.proto == 1) = false := beq_eq_false_iff_ne.2 p1
          have e : Hid (rightB p = false) := by unfold Hid rightB tcpB udpB pingB; simp_all
          go_enter Tryd.func21, Tryd.ntmps21
          go_wp2_with (first | (go_at_call 22; refine (l02Addr_any _ _).mono ?_; rintro e w1 ⟨rfl, rfl⟩) | (go_at_call 37; refine (l02Word_any _ _).mono ?_; rintro e w1 ⟨rfl, rfl⟩) | (go_at_call 38; refine (l02Flag_any _ _).mono ?_; rintro e w1 ⟨rfl, rfl⟩))
          go_ret
          exact ⟨by rw [e.out]; rfl, (HB _).out⟩
  · have e : Hid (rightB p = false) := by unfold Hid rightB; rw [show decide (p.body.size ≤ 100) = false from by simp; omega]; simp
    go_enter Tryd.func21, Tryd.ntmps21
    go_wp2_with (first | (go_at_call 22; refine (l02Addr_any _ _).mono ?_; rintro e w1 ⟨rfl, rfl⟩) | (go_at_call 37; refine (l02Word_any _ _).mono ?_; rintro e w1 ⟨rfl, rfl⟩) | (go_at_call 38; refine (l02Flag_any _ _).mono ?_; rintro e w1 ⟨rfl, rfl⟩))
    go_ret
    exact ⟨by rw [e.out]; rfl, (HB _).out⟩
end Go.Proofs.YthfhbmiddillbagDoor
end

section
namespace Go.Proofs.YthfhbmiddillbagDoor
open Go.ChangeShapes Go.WideShapes Go.ChangeAt Go.RowKit
set_option linter.unusedVariables false

/-- a block's cells, and that they may be written -/
theorem blk_cell {W : World} {B : Nat} {cs : Array Value} {t : TypeId} (h : W.heap[B]? = some (.cells cs t)) (k : Nat) : W.cell? ⟨B, k, none⟩ = cs[k]? := by simp [World.cell?, h]
theorem blk_free {W : World} {B : Nat} {cs : Array Value} {t : TypeId} (h : W.heap[B]? = some (.cells cs t)) (k : Nat) : W.frozen? ⟨B, k, none⟩ = false := by simp [World.frozen?, h]
theorem blk_lt {W : World} {B : Nat} {o : Obj} (h : W.heap[B]? = some o) : B < W.heap.size := (Array.getElem?_eq_some_iff.1 h).1
theorem blk_later {W W' : World} {B : Nat} {o : Obj} (h : W.heap[B]? = some o) (hb : Below W.heap.size W W') : W'.heap[B]? = some o := (hb.block B (blk_lt h)).trans h
/-- one cell is written -/
theorem blk_set {W : World} {B : Nat} {cs : Array Value} {t : TypeId} (h : W.heap[B]? = some (.cells cs t)) (k : Nat) (v : Value) : (W.setCell ⟨B, k, none⟩ v).heap[B]? = some (.cells (cs.setIfInBounds k v) t) := heap_setCell_same W B k cs t v h
theorem blk_other {W : World} {B g : Nat} {o : Obj} (h : W.heap[g]? = some o) (hne : g ≠ B) (k : Nat) (v : Value) : (W.setCell ⟨B, k, none⟩ v).heap[g]? = some o := (Below.heap_setCell W ⟨B, k, none⟩ v g hne).trans h

theorem below_at {B b k : Nat} {a w : World} {v : Value} (h : Below B a w) (hb : B ≤ b) : Below B a (w.setCell ⟨b, k, none⟩ v) := h.setCell hb v
theorem blk_alloc {W : World} {g : Nat} {o : Obj} (h : W.heap[g]? = some o) (o2 : Obj) : (W.alloc o2).heap[g]? = some o := (Below.heap_alloc W o2 g (blk_lt h)).trans h
end Go.Proofs.YthfhbmiddillbagDoor
end

section
namespace Go.Proofs.YthfhbmiddillbagDoor
open Go.ChangeShapes Go.WideShapes Go.ChangeAt Go.RowKit
set_option linter.unusedVariables false
set_option maxRecDepth 100000
set_option linter.unusedSimpArgs false

theorem bytesOf_28 {p : Pk} (h : Fine p) : 28 ≤ (bytesOf p).size := by
  have hz : (bytesOf p).size = 20 + (tailT p (checkT p).toNat).size := by unfold bytesOf; rw [ByteArray.size_append, headT_size]
  rw [hz]
  generalize (checkT p).toNat = c
  have h2 : (⟨#[0, 0]⟩ : ByteArray).size = 2 := rfl
  unfold tailT
  split
  · simp only [ByteArray.size_append, twoT_size, fourT_size, rowT_size, List.length_cons, List.length_nil, h2]; omega
  · split
    · simp only [ByteArray.size_append, twoT_size]; omega
    · split <;> simp only [ByteArray.size_append, twoT_size, rowT_size, List.length_cons, List.length_nil] <;> omega
/-- is it one of whom an error may be told? -/
def errB (p : Pk) (from_ : Int) : Bool := rightB p && !(p.proto == 1 && p.kind == 3) && addrB from_
def errP (p : Pk) (from_ : Int) : Pk := if errB p from_ = true then ⟨from_, p.src, 1, 0, 0, 3, 0, 0, 0, (bytesOf p).extract 0 28⟩ else zeroPk
def errC (p : Pk) (from_ : Int) : Int := if errB p from_ = true then 0 else 1

set_option maxHeartbeats 2000000 in
theorem specError_any (p : Pk) (f : Int) (w : World) (hs : p.body.size ≤ maxLen) :
    Calls Tryd.prog 10 #[.agg #[.int .i64 p.src, .int .i64 p.dst, .int .i64 p.proto, .int .i64 p.a, .int .i64 p.b, .int .i64 p.kind, .int .i64 p.flags, .int .i64 p.seq, .int .i64 p.ack, .string p.body], .int .i64 f] w fun e w' => e = .returned (.agg #[.int .i64 (errP p f).src, .int .i64 (errP p f).dst, .int .i64 (errP p f).proto, .int .i64 (errP p f).a, .int .i64 (errP p f).b, .int .i64 (errP p f).kind, .int .i64 (errP p f).flags, .int .i64 (errP p f).seq, .int .i64 (errP p f).ack, .string (errP p f).body, .int .i64 (errC p f)]) ∧ Below w.heap.size w w' := by
  have HP := hidS ((PkAt.new p w).later ((Below.refl _ _).alloc (Nat.le_refl _) (.cells #[.int .i64 0, .int .i64 0, .int .i64 0, .int .i64 0, .int .i64 0, .int .i64 0, .int .i64 0, .int .i64 0, .int .i64 0, .string ⟨#[]⟩, .int .i64 0] 32)))
  have hG : ((w.alloc (.cells #[.int .i64 p.src, .int .i64 p.dst, .int .i64 p.proto, .int .i64 p.a, .int .i64 p.b, .int .i64 p.kind, .int .i64 p.flags, .int .i64 p.seq, .int .i64 p.ack, .string p.body] 30)).alloc (.cells #[.int .i64 0, .int .i64 0, .int .i64 0, .int .i64 0, .int .i64 0, .int .i64 0, .int .i64 0, .int .i64 0, .int .i64 0, .string ⟨#[]⟩, .int .i64 0] 32)).heap[w.heap.size + 1]? = some (.cells #[.int .i64 0, .int .i64 0, .int .i64 0, .int .i64 0, .int .i64 0, .int .i64 0, .int .i64 0, .int .i64 0, .int .i64 0, .string ⟨#[]⟩, .int .i64 0] 32) := by
    have := heap_newG (w.alloc (.cells #[.int .i64 p.src, .int .i64 p.dst, .int .i64 p.proto, .int .i64 p.a, .int .i64 p.b, .int .i64 p.kind, .int .i64 p.flags, .int .i64 p.seq, .int .i64 p.ack, .string p.body] 30)) (.cells #[.int .i64 0, .int .i64 0, .int .i64 0, .int .i64 0, .int .i64 0, .int .i64 0, .int .i64 0, .int .i64 0, .int .i64 0, .string ⟨#[]⟩, .int .i64 0] 32)
    simpa using this
  have hL := hidS (((Below.refl w.heap.size w).alloc (Nat.le_refl _) (.cells #[.int .i64 p.src, .int .i64 p.dst, .int .i64 p.proto, .int .i64 p.a, .int .i64 p.b, .int .i64 p.kind, .int .i64 p.flags, .int .i64 p.seq, .int .i64 p.ack, .string p.body] 30)).alloc (by simp) (.cells #[.int .i64 0, .int .i64 0, .int .i64 0, .int .i64 0, .int .i64 0, .int .i64 0, .int .i64 0, .int .i64 0, .int .i64 0, .string ⟨#[]⟩, .int .i64 0] 32))
  go_enter Tryd.func10, Tryd.ntmps10
  go_wp2_with fail
  generalize (w.alloc (.cells #[.int .i64 p.src, .int .i64 p.dst, .int .i64 p.proto, .int .i64 p.a, .int .i64 p.b, .int .i64 p.kind, .int .i64 p.flags, .int .i64 p.seq, .int .i64 p.ack, .string p.body] 30)).alloc (.cells #[.int .i64 0, .int .i64 0, .int .i64 0, .int .i64 0, .int .i64 0, .int .i64 0, .int .i64 0, .int .i64 0, .int .i64 0, .string ⟨#[]⟩, .int .i64 0] 32) = w1 at HP hG hL ⊢
  refine (specRight_any p _ hs).mono ?_
  rintro _ w2 ⟨rfl, hb2⟩
  have HP2 := HP.out.later hb2
  have hG2 := blk_later hG hb2
  have hL2 := hidS (hL.out.trans (hb2.mono hL.out.size))
  clear HP hG hL hb2
  have H2 := hidS HP2
  obtain ⟨c0, c1, c2, c3, c4, c5, c6, c7, c8, c9⟩ := HP2
  have g0 := blk_cell hG2
  have gf := blk_free hG2
  cases hr : rightB p
  · clear c0 c1 c2 c3 c4 c5 c6 c7 c8 c9
    have eb : errB p f = false := by unfold errB; rw [hr]; rfl
    have e1 : Hid (errC p f = 1) := if_neg (by rw [eb]; simp)
    have e2 : Hid (errP p f = zeroPk) := if_neg (by rw [eb]; simp)
    clear eb
    go_wp2
    refine bodyPost_ret (v := .agg #[.int .i64 0, .int .i64 0, .int .i64 0, .int .i64 0, .int .i64 0, .int .i64 0, .int .i64 0, .int .i64 0, .int .i64 0, .string ⟨#[]⟩, .int .i64 1]) (by simp [results, Tryd.results10, go_sem, g0]) rfl ⟨by rw [e1.out, e2.out]; rfl, ?_⟩
    iterate 11 (refine below_at ?_ (Nat.le_succ _))
    exact hL2.out
  · by_cases h1 : p.proto = 1
    · have h1' : (p.proto == 1) = true := beq_iff_eq.2 h1
      by_cases h3 : p.kind = 3
      · have h3' : (p.kind == 3) = true := beq_iff_eq.2 h3
        clear h1 h3
        have eb : errB p f = false := by unfold errB; rw [hr, h1', h3']; rfl
        have e1 : Hid (errC p f = 1) := if_neg (by rw [eb]; simp)
        have e2 : Hid (errP p f = zeroPk) := if_neg (by rw [eb]; simp)
        clear eb
        go_wp2
        refine bodyPost_ret (v := .agg #[.int .i64 0, .int .i64 0, .int .i64 0, .int .i64 0, .int .i64 0, .int .i64 0, .int .i64 0, .int .i64 0, .int .i64 0, .string ⟨#[]⟩, .int .i64 1]) (by simp [results, Tryd.results10, go_sem, g0]) rfl ⟨by rw [e1.out, e2.out]; rfl, ?_⟩
        iterate 11 (refine below_at ?_ (Nat.le_succ _))
        exact hL2.out
      · have h3' : (p.kind == 3) = false := beq_eq_false_iff_ne.2 h3
        clear h1 h3
        go_wp2_with fail
        refine (l02Addr_any _ _).mono ?_
        rintro _ w3 ⟨rfl, rfl⟩
        cases hf : addrB f
        · have eb : errB p f = false := by unfold errB; rw [hr, h1', h3', hf]; rfl
          have e1 : Hid (errC p f = 1) := if_neg (by rw [eb]; simp)
          have e2 : Hid (errP p f = zeroPk) := if_neg (by rw [eb]; simp)
          clear eb
          go_wp2
          refine bodyPost_ret (v := .agg #[.int .i64 0, .int .i64 0, .int .i64 0, .int .i64 0, .int .i64 0, .int .i64 0, .int .i64 0, .int .i64 0, .int .i64 0, .string ⟨#[]⟩, .int .i64 1]) (by simp [results, Tryd.results10, go_sem, g0]) rfl ⟨by rw [e1.out, e2.out]; rfl, ?_⟩
          iterate 11 (refine below_at ?_ (Nat.le_succ _))
          exact hL2.out
        · have eb : errB p f = true := by unfold errB; rw [hr, h1', h3', hf]; rfl
          have e1 : Hid (errC p f = 0) := if_pos eb
          have e2 : Hid (errP p f = ⟨f, p.src, 1, 0, 0, 3, 0, 0, 0, (bytesOf p).extract 0 28⟩) := if_pos eb
          clear eb
          have hF := hidS (fine_of hr)
          have h28 : 28 ≤ (bytesOf p).size := bytesOf_28 hF.out
          have h28i : (28 : Int) ≤ ((bytesOf p).size : Int) := by omega
          have HP := H2
          go_wp2_with fail
          refine grow_into 8 _ [.is (.int .i64 f), .is (.pointer (some ⟨w.heap.size, 0, none⟩)), .is (.int .i64 p.src), .is (.agg #[.int .i64 p.src, .int .i64 p.dst, .int .i64 p.proto, .int .i64 p.a, .int .i64 p.b, .int .i64 p.kind, .int .i64 p.flags, .int .i64 p.seq, .int .i64 p.ack, .string p.body]), .is (.string (bytesOf p)), .is (.string ((bytesOf p).extract 0 28)), .is (.agg #[.int .i64 f, .int .i64 p.src, .int .i64 1, .int .i64 0, .int .i64 0, .int .i64 3, .int .i64 0, .int .i64 0, .int .i64 0, .string ((bytesOf p).extract 0 28)]), .is (.agg #[.int .i64 f, .int .i64 p.src, .int .i64 1, .int .i64 0, .int .i64 0, .int .i64 3, .int .i64 0, .int .i64 0, .int .i64 0, .string ((bytesOf p).extract 0 28), .int .i64 0])] 7 4 31 32 32 (w.heap.size + 1) #[.int .i64 0, .int .i64 0, .int .i64 0, .int .i64 0, .int .i64 0, .int .i64 0, .int .i64 0, .int .i64 0, .int .i64 0, .string ⟨#[]⟩, .int .i64 0] #[.int .i64 f, .int .i64 p.src, .int .i64 1, .int .i64 0, .int .i64 0, .int .i64 3, .int .i64 0, .int .i64 0, .int .i64 0, .string ((bytesOf p).extract 0 28), .int .i64 0] rfl rfl rfl (by kernel_rfl) (by kernel_rfl) (by kernel_rfl) rfl rfl (by decide) (by kernel_rfl) (by kernel_rfl) (by decide) hG2 (by kernel_rfl) (by kernel_rfl) (by first | kernel_rfl | simp [Value.oneCell']) (by kernel_rfl) ?steps ?fin
          case steps =>
            refine ⟨?_, ?_, ?_, ?_, ?_, ?_, ?_, ?_, trivial⟩
            · refine ⟨rfl, fun v W ρ hC kc kf ks ki kd => ?_⟩
              have t1 : ρ (.tmp 1) = .int .i64 f := ki 1 (by decide)
              simp [execOp, go_sem, t1]
              exact ⟨hC, Below.refl _ _, rfl⟩
            · refine ⟨rfl, fun v W ρ hC kc kf ks ki kd => ?_⟩
              have t2 : ρ (.tmp 2) = .pointer (some ⟨w.heap.size, 0, none⟩) := ki 2 (by decide)
              simp [execOp, go_sem, t2]
              exact ⟨hC, Below.refl _ _, rfl⟩
            · refine ⟨rfl, fun v W ρ hC kc kf ks ki kd => ?_⟩
              have d1 : v 1 = .pointer (some ⟨w.heap.size, 0, none⟩) := kd _ (Array.mem_of_getElem? (i := 0) rfl) rfl
              have t25 : ρ (.tmp 25) = v 1 := ks 1 25 (by decide) rfl
              rw [d1] at t25
              have hp := HP.out.later hC
              obtain ⟨c0, c1, c2, c3, c4, c5, c6, c7, c8, c9⟩ := hp
              simp [execOp, go_sem, t25, c0]
              exact ⟨hC, Below.refl _ _, rfl⟩
            · refine ⟨rfl, fun v W ρ hC kc kf ks ki kd => ?_⟩
              have t2 : ρ (.tmp 2) = .pointer (some ⟨w.heap.size, 0, none⟩) := ki 2 (by decide)
              have hp := HP.out.later hC
              obtain ⟨c0, c1, c2, c3, c4, c5, c6, c7, c8, c9⟩ := hp
              simp [execOp, go_sem, t2, c0, c1, c2, c3, c4, c5, c6, c7, c8, c9]
              exact ⟨hC, Below.refl _ _, rfl⟩
            · refine ⟨rfl, fun v W ρ hC kc kf ks ki kd => ?_⟩
              have d3 : v 3 = .agg #[.int .i64 p.src, .int .i64 p.dst, .int .i64 p.proto, .int .i64 p.a, .int .i64 p.b, .int .i64 p.kind, .int .i64 p.flags, .int .i64 p.seq, .int .i64 p.ack, .string p.body] := kd _ (Array.mem_of_getElem? (i := 0) rfl) rfl
              have t27 : ρ (.tmp 27) = v 3 := ks 3 27 (by decide) rfl
              rw [d3] at t27
              simp [execOp, go_sem, t27, kf]
              exact Calls.mono (l03Bytes_any p _ hF.out) (fun e x h => ⟨_, h.1, hC.trans (h.2.mono hC.size), h.2, rfl⟩)
            · refine ⟨rfl, fun v W ρ hC kc kf ks ki kd => ?_⟩
              have d4 : v 4 = .string (bytesOf p) := kd _ (Array.mem_of_getElem? (i := 0) rfl) rfl
              have t28 : ρ (.tmp 28) = v 4 := ks 4 28 (by decide) rfl
              rw [d4] at t28
              simp [execOp, go_sem, t28, h28, h28i, kc]
              exact ⟨hC, Below.refl _ _, rfl⟩
            · refine ⟨rfl, fun v W ρ hC kc kf ks ki kd => ?_⟩
              have d0 : v 0 = .int .i64 f := kd _ (Array.mem_of_getElem? (i := 0) rfl) rfl
              have t24 : ρ (.tmp 24) = v 0 := ks 0 24 (by decide) rfl
              rw [d0] at t24
              have d2 : v 2 = .int .i64 p.src := kd _ (Array.mem_of_getElem? (i := 1) rfl) rfl
              have t26 : ρ (.tmp 26) = v 2 := ks 2 26 (by decide) rfl
              rw [d2] at t26
              have d5 : v 5 = .string ((bytesOf p).extract 0 28) := kd _ (Array.mem_of_getElem? (i := 2) rfl) rfl
              have t29 : ρ (.tmp 29) = v 5 := ks 5 29 (by decide) rfl
              rw [d5] at t29
              simp [execOp, go_sem, t24, t26, t29, kc]
              exact ⟨hC, Below.refl _ _, rfl⟩
            · refine ⟨rfl, fun v W ρ hC kc kf ks ki kd => ?_⟩
              have d6 : v 6 = .agg #[.int .i64 f, .int .i64 p.src, .int .i64 1, .int .i64 0, .int .i64 0, .int .i64 3, .int .i64 0, .int .i64 0, .int .i64 0, .string ((bytesOf p).extract 0 28)] := kd _ (Array.mem_of_getElem? (i := 0) rfl) rfl
              have t30 : ρ (.tmp 30) = v 6 := ks 6 30 (by decide) rfl
              rw [d6] at t30
              simp [execOp, go_sem, t30]
              exact ⟨hC, Below.refl _ _, rfl⟩
          case fin =>
            intro v W hLW hgW hall
            simp [upto, Act.put]
            clear hall
            have g0 := blk_cell hgW
            have hLE := hidS (hL2.out.trans (hLW w.heap.size (Nat.le_succ _)))
            clear c0 c1 c2 c3 c4 c5 c6 c7 c8 c9 hgW hLW
            go_wp2
            refine bodyPost_ret (v := .agg #[.int .i64 f, .int .i64 p.src, .int .i64 1, .int .i64 0, .int .i64 0, .int .i64 3, .int .i64 0, .int .i64 0, .int .i64 0, .string ((bytesOf p).extract 0 28), .int .i64 0]) (by simp [results, Tryd.results10, go_sem, g0]) rfl ⟨by rw [e1.out, e2.out], hLE.out⟩
    · have h1' : (p.proto == 1) = false := beq_eq_false_iff_ne.2 h1
      clear h1
      go_wp2_with fail
      refine (l02Addr_any _ _).mono ?_
      rintro _ w3 ⟨rfl, rfl⟩
      cases hf : addrB f
      · have eb : errB p f = false := by unfold errB; rw [hr, h1', hf]; rfl
        have e1 : Hid (errC p f = 1) := if_neg (by rw [eb]; simp)
        have e2 : Hid (errP p f = zeroPk) := if_neg (by rw [eb]; simp)
        clear eb
        go_wp2
        refine bodyPost_ret (v := .agg #[.int .i64 0, .int .i64 0, .int .i64 0, .int .i64 0, .int .i64 0, .int .i64 0, .int .i64 0, .int .i64 0, .int .i64 0, .string ⟨#[]⟩, .int .i64 1]) (by simp [results, Tryd.results10, go_sem, g0]) rfl ⟨by rw [e1.out, e2.out]; rfl, ?_⟩
        iterate 11 (refine below_at ?_ (Nat.le_succ _))
        exact hL2.out
      · have eb : errB p f = true := by unfold errB; rw [hr, h1', hf]; rfl
        have e1 : Hid (errC p f = 0) := if_pos eb
        have e2 : Hid (errP p f = ⟨f, p.src, 1, 0, 0, 3, 0, 0, 0, (bytesOf p).extract 0 28⟩) := if_pos eb
        clear eb
        have hF := hidS (fine_of hr)
        have h28 : 28 ≤ (bytesOf p).size := bytesOf_28 hF.out
        have h28i : (28 : Int) ≤ ((bytesOf p).size : Int) := by omega
        have HP := H2
        go_wp2_with fail
        refine grow_into 8 _ [.is (.int .i64 f), .is (.pointer (some ⟨w.heap.size, 0, none⟩)), .is (.int .i64 p.src), .is (.agg #[.int .i64 p.src, .int .i64 p.dst, .int .i64 p.proto, .int .i64 p.a, .int .i64 p.b, .int .i64 p.kind, .int .i64 p.flags, .int .i64 p.seq, .int .i64 p.ack, .string p.body]), .is (.string (bytesOf p)), .is (.string ((bytesOf p).extract 0 28)), .is (.agg #[.int .i64 f, .int .i64 p.src, .int .i64 1, .int .i64 0, .int .i64 0, .int .i64 3, .int .i64 0, .int .i64 0, .int .i64 0, .string ((bytesOf p).extract 0 28)]), .is (.agg #[.int .i64 f, .int .i64 p.src, .int .i64 1, .int .i64 0, .int .i64 0, .int .i64 3, .int .i64 0, .int .i64 0, .int .i64 0, .string ((bytesOf p).extract 0 28), .int .i64 0])] 7 4 31 32 32 (w.heap.size + 1) #[.int .i64 0, .int .i64 0, .int .i64 0, .int .i64 0, .int .i64 0, .int .i64 0, .int .i64 0, .int .i64 0, .int .i64 0, .string ⟨#[]⟩, .int .i64 0] #[.int .i64 f, .int .i64 p.src, .int .i64 1, .int .i64 0, .int .i64 0, .int .i64 3, .int .i64 0, .int .i64 0, .int .i64 0, .string ((bytesOf p).extract 0 28), .int .i64 0] rfl rfl rfl (by kernel_rfl) (by kernel_rfl) (by kernel_rfl) rfl rfl (by decide) (by kernel_rfl) (by kernel_rfl) (by decide) hG2 (by kernel_rfl) (by kernel_rfl) (by first | kernel_rfl | simp [Value.oneCell']) (by kernel_rfl) ?steps ?fin
        case steps =>
          refine ⟨?_, ?_, ?_, ?_, ?_, ?_, ?_, ?_, trivial⟩
          · refine ⟨rfl, fun v W ρ hC kc kf ks ki kd => ?_⟩
            have t1 : ρ (.tmp 1) = .int .i64 f := ki 1 (by decide)
            simp [execOp, go_sem, t1]
            exact ⟨hC, Below.refl _ _, rfl⟩
          · refine ⟨rfl, fun v W ρ hC kc kf ks ki kd => ?_⟩
            have t2 : ρ (.tmp 2) = .pointer (some ⟨w.heap.size, 0, none⟩) := ki 2 (by decide)
            simp [execOp, go_sem, t2]
            exact ⟨hC, Below.refl _ _, rfl⟩
          · refine ⟨rfl, fun v W ρ hC kc kf ks ki kd => ?_⟩
            have d1 : v 1 = .pointer (some ⟨w.heap.size, 0, none⟩) := kd _ (Array.mem_of_getElem? (i := 0) rfl) rfl
            have t25 : ρ (.tmp 25) = v 1 := ks 1 25 (by decide) rfl
            rw [d1] at t25
            have hp := HP.out.later hC
            obtain ⟨c0, c1, c2, c3, c4, c5, c6, c7, c8, c9⟩ := hp
            simp [execOp, go_sem, t25, c0]
            exact ⟨hC, Below.refl _ _, rfl⟩
          · refine ⟨rfl, fun v W ρ hC kc kf ks ki kd => ?_⟩
            have t2 : ρ (.tmp 2) = .pointer (some ⟨w.heap.size, 0, none⟩) := ki 2 (by decide)
            have hp := HP.out.later hC
            obtain ⟨c0, c1, c2, c3, c4, c5, c6, c7, c8, c9⟩ := hp
            simp [execOp, go_sem, t2, c0, c1, c2, c3, c4, c5, c6, c7, c8, c9]
            exact ⟨hC, Below.refl _ _, rfl⟩
          · refine ⟨rfl, fun v W ρ hC kc kf ks ki kd => ?_⟩
            have d3 : v 3 = .agg #[.int .i64 p.src, .int .i64 p.dst, .int .i64 p.proto, .int .i64 p.a, .int .i64 p.b, .int .i64 p.kind, .int .i64 p.flags, .int .i64 p.seq, .int .i64 p.ack, .string p.body] := kd _ (Array.mem_of_getElem? (i := 0) rfl) rfl
            have t27 : ρ (.tmp 27) = v 3 := ks 3 27 (by decide) rfl
            rw [d3] at t27
            simp [execOp, go_sem, t27, kf]
            exact Calls.mono (l03Bytes_any p _ hF.out) (fun e x h => ⟨_, h.1, hC.trans (h.2.mono hC.size), h.2, rfl⟩)
          · refine ⟨rfl, fun v W ρ hC kc kf ks ki kd => ?_⟩
            have d4 : v 4 = .string (bytesOf p) := kd _ (Array.mem_of_getElem? (i := 0) rfl) rfl
            have t28 : ρ (.tmp 28) = v 4 := ks 4 28 (by decide) rfl
            rw [d4] at t28
            simp [execOp, go_sem, t28, h28, h28i, kc]
            exact ⟨hC, Below.refl _ _, rfl⟩
          · refine ⟨rfl, fun v W ρ hC kc kf ks ki kd => ?_⟩
            have d0 : v 0 = .int .i64 f := kd _ (Array.mem_of_getElem? (i := 0) rfl) rfl
            have t24 : ρ (.tmp 24) = v 0 := ks 0 24 (by decide) rfl
            rw [d0] at t24
            have d2 : v 2 = .int .i64 p.src := kd _ (Array.mem_of_getElem? (i := 1) rfl) rfl
            have t26 : ρ (.tmp 26) = v 2 := ks 2 26 (by decide) rfl
            rw [d2] at t26
            have d5 : v 5 = .string ((bytesOf p).extract 0 28) := kd _ (Array.mem_of_getElem? (i := 2) rfl) rfl
            have t29 : ρ (.tmp 29) = v 5 := ks 5 29 (by decide) rfl
            rw [d5] at t29
            simp [execOp, go_sem, t24, t26, t29, kc]
            exact ⟨hC, Below.refl _ _, rfl⟩
          · refine ⟨rfl, fun v W ρ hC kc kf ks ki kd => ?_⟩
            have d6 : v 6 = .agg #[.int .i64 f, .int .i64 p.src, .int .i64 1, .int .i64 0, .int .i64 0, .int .i64 3, .int .i64 0, .int .i64 0, .int .i64 0, .string ((bytesOf p).extract 0 28)] := kd _ (Array.mem_of_getElem? (i := 0) rfl) rfl
            have t30 : ρ (.tmp 30) = v 6 := ks 6 30 (by decide) rfl
            rw [d6] at t30
            simp [execOp, go_sem, t30]
            exact ⟨hC, Below.refl _ _, rfl⟩
        case fin =>
          intro v W hLW hgW hall
          simp [upto, Act.put]
          clear hall
          have g0 := blk_cell hgW
          have hLE := hidS (hL2.out.trans (hLW w.heap.size (Nat.le_succ _)))
          clear c0 c1 c2 c3 c4 c5 c6 c7 c8 c9 hgW hLW
          go_wp2
          refine bodyPost_ret (v := .agg #[.int .i64 f, .int .i64 p.src, .int .i64 1, .int .i64 0, .int .i64 0, .int .i64 3, .int .i64 0, .int .i64 0, .int .i64 0, .string ((bytesOf p).extract 0 28), .int .i64 0]) (by simp [results, Tryd.results10, go_sem, g0]) rfl ⟨by rw [e1.out, e2.out], hLE.out⟩
end Go.Proofs.YthfhbmiddillbagDoor
end

section
namespace Go.Proofs.YthfhbmiddillbagDoor
open Go.ChangeShapes Go.WideShapes Go.ChangeAt Go.RowKit
open Go.ChangeMaps (open_string shut_string)
set_option linter.unusedVariables false

/-- what partOf answers -/
def tcpV (p : Pk) : Value := .iface 106 (.agg #[.int .i64 p.a, .int .i64 p.b, .int .i64 p.seq, .int .i64 p.ack, .int .i64 p.flags, .string p.body])
def udpV (p : Pk) : Value := .iface 108 (.agg #[.int .i64 p.a, .int .i64 p.b, .string p.body])
def errV (p : Pk) : Value := .iface 110 (.agg #[.string p.body])
def echoV (p : Pk) : Value := .iface 112 (.agg #[.int .i64 p.kind, .int .i64 p.a, .int .i64 p.seq, .string p.body])

theorem partOf_tcp (p : Pk) (w : World) (h6 : p.proto = 6) :
    Calls Tryd.prog 52 #[.agg #[.int .i64 p.src, .int .i64 p.dst, .int .i64 p.proto, .int .i64 p.a, .int .i64 p.b, .int .i64 p.kind, .int .i64 p.flags, .int .i64 p.seq, .int .i64 p.ack, .string p.body]] w fun e w' => e = .returned (tcpV p) ∧ Below w.heap.size w w' := by
  have HB := fun o => hidS ((Below.refl w.heap.size w).alloc (Nat.le_refl _) o)
  go_enter Tryd.func52, Tryd.ntmps52
  go_wp2
  go_ret
  exact ⟨rfl, (HB _).out⟩
theorem partOf_udp (p : Pk) (w : World) (h17 : p.proto = 17) :
    Calls Tryd.prog 52 #[.agg #[.int .i64 p.src, .int .i64 p.dst, .int .i64 p.proto, .int .i64 p.a, .int .i64 p.b, .int .i64 p.kind, .int .i64 p.flags, .int .i64 p.seq, .int .i64 p.ack, .string p.body]] w fun e w' => e = .returned (udpV p) ∧ Below w.heap.size w w' := by
  have HB := fun o => hidS ((Below.refl w.heap.size w).alloc (Nat.le_refl _) o)
  go_enter Tryd.func52, Tryd.ntmps52
  go_wp2
  go_ret
  exact ⟨rfl, (HB _).out⟩
theorem partOf_err (p : Pk) (w : World) (h1 : p.proto = 1) (h3 : p.kind = 3) :
    Calls Tryd.prog 52 #[.agg #[.int .i64 p.src, .int .i64 p.dst, .int .i64 p.proto, .int .i64 p.a, .int .i64 p.b, .int .i64 p.kind, .int .i64 p.flags, .int .i64 p.seq, .int .i64 p.ack, .string p.body]] w fun e w' => e = .returned (errV p) ∧ Below w.heap.size w w' := by
  have HB := fun o => hidS ((Below.refl w.heap.size w).alloc (Nat.le_refl _) o)
  go_enter Tryd.func52, Tryd.ntmps52
  go_wp2
  go_ret
  exact ⟨rfl, (HB _).out⟩
theorem partOf_echo (p : Pk) (w : World) (h1 : p.proto = 1) (h3 : p.kind ≠ 3) :
    Calls Tryd.prog 52 #[.agg #[.int .i64 p.src, .int .i64 p.dst, .int .i64 p.proto, .int .i64 p.a, .int .i64 p.b, .int .i64 p.kind, .int .i64 p.flags, .int .i64 p.seq, .int .i64 p.ack, .string p.body]] w fun e w' => e = .returned (echoV p) ∧ Below w.heap.size w w' := by
  have HB := fun o => hidS ((Below.refl w.heap.size w).alloc (Nat.le_refl _) o)
  go_enter Tryd.func52, Tryd.ntmps52
  go_wp2
  go_ret
  exact ⟨rfl, (HB _).out⟩
theorem partOf_none (p : Pk) (w : World) (h6 : p.proto ≠ 6) (h17 : p.proto ≠ 17) (h1 : p.proto ≠ 1) :
    Calls Tryd.prog 52 #[.agg #[.int .i64 p.src, .int .i64 p.dst, .int .i64 p.proto, .int .i64 p.a, .int .i64 p.b, .int .i64 p.kind, .int .i64 p.flags, .int .i64 p.seq, .int .i64 p.ack, .string p.body]] w fun e w' => e = .returned (.nilIface) ∧ Below w.heap.size w w' := by
  have HB := fun o => hidS ((Below.refl w.heap.size w).alloc (Nat.le_refl _) o)
  go_enter Tryd.func52, Tryd.ntmps52
  go_wp2
  go_ret
  exact ⟨rfl, (HB _).out⟩
end Go.Proofs.YthfhbmiddillbagDoor
end

section
namespace Go.Proofs.YthfhbmiddillbagDoor
open Go.ChangeShapes Go.WideShapes Go.ChangeAt Go.RowKit
open Go.ChangeMaps (open_string shut_string)
set_option linter.unusedVariables false

/-- all of them are words -/
def allW (zs : List Int) : Bool := zs.all wordB
theorem all_take_succ (zs : List Int) (k : Nat) (h : k < zs.length) : allW (zs.take (k + 1)) = (allW (zs.take k) && wordB zs[k]) := by
  unfold allW; rw [List.take_succ_eq_append_getElem h, List.all_append]; simp
theorem all_bad (zs : List Int) (k : Nat) (h : k < zs.length) (hb : wordB zs[k] = false) : allW zs = false := by
  cases e : allW zs
  · rfl
  · have := List.all_eq_true.1 e zs[k] (List.getElem_mem h); rw [hb] at this; cases this
set_option maxHeartbeats 400000 in
theorem areWords_any (g : Nat) (zs : List Int) (w : World) (hc : ∀ j, (h : j < zs.length) → w.cell? ⟨g, j, none⟩ = some (.int .i64 zs[j])) (hl : zs.length ≤ 1000) :
    Calls Tryd.prog 96 #[.slice (some ⟨g, 0, none⟩) zs.length zs.length] w fun e w' => e = .returned (.bool (allW zs)) ∧ w' = w := by
  have HC := hidS hc
  clear hc
  go_enter Tryd.func96, Tryd.ntmps96
  go_wp2
  go_loop [7] (fun i => ∃ k : Nat, k ≤ zs.length ∧ i = .int .i64 k ∧ Hid (allW (zs.take k) = true)) (fun i => zs.length - (intOf i).toNat)
  case atStart => exact ⟨0, by omega, rfl, rfl⟩
  case round =>
    obtain ⟨k, hk, rfl, hX⟩ := hrel
    by_cases h : k < zs.length
    · have h' : (k : Int) < (zs.length : Int) := by omega
      have hck := HC.out k h
      have hA := hidS (all_bad zs k h)
      have hB : Hid (wordB zs[k] = true → allW (zs.take (k + 1)) = true) := by intro q; rw [all_take_succ zs k h, hX.out, q]; rfl
      generalize zs[k] = z at *
      clear hX
      by_cases h1 : z < 0
      · have hE : Hid (allW zs = false) := hA.out (by simp [wordB]; omega)
        clear hA hB
        go_wp2
        go_ret
        exact ⟨by rw [hE.out]; rfl, rfl⟩
      · by_cases h2 : 65535 < z
        · have hE : Hid (allW zs = false) := hA.out (by simp [wordB]; omega)
          clear hA hB
          go_wp2
          go_ret
          exact ⟨by rw [hE.out]; rfl, rfl⟩
        · have hE := hidS (hB.out (by simp [wordB]; omega))
          clear hA hB
          go_wp2
          go_round
          case rel => exact ⟨k + 1, by omega, by go_num, hE⟩
          case measure => simp [intOf]; omega
    · have hE : Hid (allW zs = true) := by have := hX.out; rw [List.take_of_length_le (by omega)] at this; exact this
      clear hX
      go_wp2
      go_ret
      exact ⟨by rw [hE.out]; rfl, rfl⟩
theorem two_cells (W : World) (a b : Int) (t : TypeId) : ∀ j, (h : j < [a, b].length) → (W.alloc (.cells #[.int .i64 a, .int .i64 b] t)).cell? ⟨W.heap.size, j, none⟩ = some (.int .i64 [a, b][j]) := by
  intro j hj
  rcases (by simp at hj; omega : j = 0 ∨ j = 1) with rfl | rfl <;> simp
theorem three_cells (W : World) (a b c : Int) (t : TypeId) : ∀ j, (h : j < [a, b, c].length) → (W.alloc (.cells #[.int .i64 a, .int .i64 b, .int .i64 c] t)).cell? ⟨W.heap.size, j, none⟩ = some (.int .i64 [a, b, c][j]) := by
  intro j hj
  rcases (by simp at hj; omega : j = 0 ∨ j = 1 ∨ j = 2) with rfl | rfl | rfl <;> simp
theorem one_cell (W : World) (a : Int) (t : TypeId) : ∀ j, (h : j < [a].length) → (W.alloc (.cells #[.int .i64 a] t)).cell? ⟨W.heap.size, j, none⟩ = some (.int .i64 [a][j]) := by
  intro j hj
  obtain rfl : j = 0 := by simp at hj; omega
  simp
end Go.Proofs.YthfhbmiddillbagDoor
end

section
namespace Go.Proofs.YthfhbmiddillbagDoor
open Go.ChangeShapes Go.WideShapes Go.ChangeAt Go.RowKit
open Go.ChangeMaps (open_string shut_string)
set_option linter.unusedVariables false

/-- all of them are addresses -/
def allA (zs : List Int) : Bool := zs.all addrB
theorem allA_take_succ (zs : List Int) (k : Nat) (h : k < zs.length) : allA (zs.take (k + 1)) = (allA (zs.take k) && addrB zs[k]) := by
  unfold allA; rw [List.take_succ_eq_append_getElem h, List.all_append]; simp
theorem allA_bad (zs : List Int) (k : Nat) (h : k < zs.length) (hb : addrB zs[k] = false) : allA zs = false := by
  cases e : allA zs
  · rfl
  · have := List.all_eq_true.1 e zs[k] (List.getElem_mem h); rw [hb] at this; cases this
set_option maxHeartbeats 400000 in
theorem areAddrs_any (g : Nat) (zs : List Int) (w : World) (hc : ∀ j, (h : j < zs.length) → w.cell? ⟨g, j, none⟩ = some (.int .i64 zs[j])) (hl : zs.length ≤ 1000) :
    Calls Tryd.prog 34 #[.slice (some ⟨g, 0, none⟩) zs.length zs.length] w fun e w' => e = .returned (.bool (allA zs)) ∧ w' = w := by
  have HC := hidS hc
  clear hc
  go_enter Tryd.func34, Tryd.ntmps34
  go_wp2
  go_loop [7] (fun i => ∃ k : Nat, k ≤ zs.length ∧ i = .int .i64 k ∧ Hid (allA (zs.take k) = true)) (fun i => zs.length - (intOf i).toNat)
  case atStart => exact ⟨0, by omega, rfl, rfl⟩
  case round =>
    obtain ⟨k, hk, rfl, hX⟩ := hrel
    by_cases h : k < zs.length
    · have h' : (k : Int) < (zs.length : Int) := by omega
      have hck := HC.out k h
      have hA := hidS (allA_bad zs k h)
      have hB : Hid (addrB zs[k] = true → allA (zs.take (k + 1)) = true) := by intro q; rw [allA_take_succ zs k h, hX.out, q]; rfl
      generalize zs[k] = z at *
      clear hX
      by_cases h1 : z < 0
      · have hE : Hid (allA zs = false) := hA.out (by simp [addrB]; omega)
        clear hA hB
        go_wp2
        go_ret
        exact ⟨by rw [hE.out]; rfl, rfl⟩
      · by_cases h2 : 4294967295 < z
        · have hE : Hid (allA zs = false) := hA.out (by simp [addrB]; omega)
          clear hA hB
          go_wp2
          go_ret
          exact ⟨by rw [hE.out]; rfl, rfl⟩
        · have hE := hidS (hB.out (by simp [addrB]; omega))
          clear hA hB
          go_wp2
          go_round
          case rel => exact ⟨k + 1, by omega, by go_num, hE⟩
          case measure => simp [intOf]; omega
    · have hE : Hid (allA zs = true) := by have := hX.out; rw [List.take_of_length_le (by omega)] at this; exact this
      clear hX
      go_wp2
      go_ret
      exact ⟨by rw [hE.out]; rfl, rfl⟩
end Go.Proofs.YthfhbmiddillbagDoor
end

section
namespace Go.Proofs.YthfhbmiddillbagDoor
open Go.ChangeShapes Go.WideShapes Go.ChangeAt Go.RowKit
open Go.ChangeMaps (open_string shut_string)
set_option linter.unusedVariables false

theorem two_cells1 (W : World) (o : Obj) (a b : Int) (t : TypeId) : ∀ j, (h : j < [a, b].length) → ((W.alloc o).alloc (.cells #[.int .i64 a, .int .i64 b] t)).cell? ⟨W.heap.size + 1, j, none⟩ = some (.int .i64 [a, b][j]) := by
  have := two_cells (W.alloc o) a b t
  simpa using this
theorem two_cells2 (W : World) (o o2 : Obj) (a b : Int) (t : TypeId) : ∀ j, (h : j < [a, b].length) → (((W.alloc o).alloc o2).alloc (.cells #[.int .i64 a, .int .i64 b] t)).cell? ⟨W.heap.size + 2, j, none⟩ = some (.int .i64 [a, b][j]) := by
  have := two_cells ((W.alloc o).alloc o2) a b t
  simpa using this

set_option maxHeartbeats 1000000 in
theorem tcpRight_any (a b q k f : Int) (s : ByteArray) (w : World) :
    Calls Tryd.prog 139 #[.agg #[.int .i64 a, .int .i64 b, .int .i64 q, .int .i64 k, .int .i64 f, .string s]] w fun e w' => e = .returned (.bool (allW [a, b] && allA [q, k] && flagB f)) ∧ Below w.heap.size w w' := by
  have HB := fun o => hidS ((Below.refl w.heap.size w).alloc (Nat.le_refl _) o)
  have HB2 := fun o o2 => hidS (((Below.refl w.heap.size w).alloc (Nat.le_refl _) o).alloc (by simp) o2)
  have HB3 := fun o o2 o3 => hidS ((((Below.refl w.heap.size w).alloc (Nat.le_refl _) o).alloc (by simp) o2).alloc (by simp; omega) o3)
  cases h1 : allW [a, b]
  · go_enter Tryd.func139, Tryd.ntmps139
    go_wp2_with fail
    refine (areWords_any (w.heap.size + 1) [a, b] _ (two_cells1 _ _ _ _ _) (by simp)).mono ?_
    rintro e w1 ⟨rfl, rfl⟩
    rw [h1]
    go_wp2
    go_ret
    exact ⟨rfl, (HB2 _ _).out⟩
  cases h2 : allA [q, k]
  · go_enter Tryd.func139, Tryd.ntmps139
    go_wp2_with fail
    refine (areWords_any (w.heap.size + 1) [a, b] _ (two_cells1 _ _ _ _ _) (by simp)).mono ?_
    rintro e w1 ⟨rfl, rfl⟩
    rw [h1]
    go_wp2_with fail
    refine (areAddrs_any (w.heap.size + 2) [q, k] _ (two_cells2 _ _ _ _ _ _) (by simp)).mono ?_
    rintro e w1 ⟨rfl, rfl⟩
    rw [h2]
    go_wp2
    go_ret
    exact ⟨rfl, (HB3 _ _ _).out⟩
  by_cases h3 : 0 ≤ f
  · by_cases h4 : f ≤ 63
    · have e : Hid (flagB f = true) := flagB_iff.2 ⟨h3, h4⟩
      go_enter Tryd.func139, Tryd.ntmps139
      go_wp2_with fail
      refine (areWords_any (w.heap.size + 1) [a, b] _ (two_cells1 _ _ _ _ _) (by simp)).mono ?_
      rintro e w1 ⟨rfl, rfl⟩
      rw [h1]
      go_wp2_with fail
      refine (areAddrs_any (w.heap.size + 2) [q, k] _ (two_cells2 _ _ _ _ _ _) (by simp)).mono ?_
      rintro e w1 ⟨rfl, rfl⟩
      rw [h2]
      go_wp2
      go_ret
      exact ⟨by rw [e.out]; rfl, (HB3 _ _ _).out⟩
    · have e : Hid (flagB f = false) := by show _ = _; simp [flagB]; omega
      have h4' : decide (f ≤ 63) = false := by simpa using h4
      go_enter Tryd.func139, Tryd.ntmps139
      go_wp2_with fail
      refine (areWords_any (w.heap.size + 1) [a, b] _ (two_cells1 _ _ _ _ _) (by simp)).mono ?_
      rintro e w1 ⟨rfl, rfl⟩
      rw [h1]
      go_wp2_with fail
      refine (areAddrs_any (w.heap.size + 2) [q, k] _ (two_cells2 _ _ _ _ _ _) (by simp)).mono ?_
      rintro e w1 ⟨rfl, rfl⟩
      rw [h2]
      go_wp2
      go_ret
      exact ⟨by rw [e.out]; rfl, (HB3 _ _ _).out⟩
  · have e : Hid (flagB f = false) := by show _ = _; simp [flagB]; omega
    have h3' : decide (0 ≤ f) = false := by simpa using h3
    go_enter Tryd.func139, Tryd.ntmps139
    go_wp2_with fail
    refine (areWords_any (w.heap.size + 1) [a, b] _ (two_cells1 _ _ _ _ _) (by simp)).mono ?_
    rintro e w1 ⟨rfl, rfl⟩
    rw [h1]
    go_wp2_with fail
    refine (areAddrs_any (w.heap.size + 2) [q, k] _ (two_cells2 _ _ _ _ _ _) (by simp)).mono ?_
    rintro e w1 ⟨rfl, rfl⟩
    rw [h2]
    go_wp2
    go_ret
    exact ⟨by rw [e.out]; rfl, (HB3 _ _ _).out⟩

theorem udpRight_any (a b : Int) (s : ByteArray) (w : World) :
    Calls Tryd.prog 142 #[.agg #[.int .i64 a, .int .i64 b, .string s]] w fun e w' => e = .returned (.bool (allW [a, b])) ∧ Below w.heap.size w w' := by
  have HB2 := fun o o2 => hidS (((Below.refl w.heap.size w).alloc (Nat.le_refl _) o).alloc (by simp) o2)
  go_enter Tryd.func142, Tryd.ntmps142
  go_wp2_with fail
  refine (areWords_any (w.heap.size + 1) [a, b] _ (two_cells1 _ _ _ _ _) (by simp)).mono ?_
  rintro e w1 ⟨rfl, rfl⟩
  go_wp2
  go_ret
  exact ⟨rfl, (HB2 _ _).out⟩

theorem errRight_any (s : ByteArray) (w : World) (hs : s.size ≤ maxLen) :
    Calls Tryd.prog 145 #[.agg #[.string s]] w fun e w' => e = .returned (.bool (decide (28 ≤ s.size))) ∧ Below w.heap.size w w' := by
  have hs' : s.size ≤ 2 ^ 63 - 1 := hs
  have HB := fun o => hidS ((Below.refl w.heap.size w).alloc (Nat.le_refl _) o)
  have e : Hid (decide ((28 : Int) ≤ (s.size : Int)) = decide (28 ≤ s.size)) := by show _ = _; rw [decide_eq_decide]; omega
  go_enter Tryd.func145, Tryd.ntmps145
  go_wp2
  go_ret
  exact ⟨by rw [← e.out]; rfl, (HB _).out⟩

theorem echoRight_any (c a q : Int) (s : ByteArray) (w : World) :
    Calls Tryd.prog 148 #[.agg #[.int .i64 c, .int .i64 a, .int .i64 q, .string s]] w fun e w' => e = .returned (.bool ((decide (c = 8) || decide (c = 0)) && allW [a, q])) ∧ Below w.heap.size w w' := by
  have HB := fun o => hidS ((Below.refl w.heap.size w).alloc (Nat.le_refl _) o)
  have HB2 := fun o o2 => hidS (((Below.refl w.heap.size w).alloc (Nat.le_refl _) o).alloc (by simp) o2)
  by_cases h8 : c = 8
  · subst h8
    go_enter Tryd.func148, Tryd.ntmps148
    go_wp2_with fail
    refine (areWords_any (w.heap.size + 1) [a, q] _ (two_cells1 _ _ _ _ _) (by simp)).mono ?_
    rintro e w1 ⟨rfl, rfl⟩
    go_wp2
    go_ret
    exact ⟨by simp, (HB2 _ _).out⟩
  · by_cases h0 : c = 0
    · subst h0
      go_enter Tryd.func148, Tryd.ntmps148
      go_wp2_with fail
      refine (areWords_any (w.heap.size + 1) [a, q] _ (two_cells1 _ _ _ _ _) (by simp)).mono ?_
      rintro e w1 ⟨rfl, rfl⟩
      go_wp2
      go_ret
      exact ⟨by simp, (HB2 _ _).out⟩
    · have h8' : (c == 8) = false := by simpa using h8
      have h0' : (c == 0) = false := by simpa using h0
      go_enter Tryd.func148, Tryd.ntmps148
      go_wp2
      go_ret
      exact ⟨by simp [h8, h0], (HB _).out⟩

theorem tcpFields_any (a b q k f : Int) (s : ByteArray) (w : World) :
    Calls Tryd.prog 138 #[.agg #[.int .i64 a, .int .i64 b, .int .i64 q, .int .i64 k, .int .i64 f, .string s]] w fun e w' => e = .returned (.agg #[.int .i64 0, .int .i64 0, .int .i64 6, .int .i64 a, .int .i64 b, .int .i64 0, .int .i64 f, .int .i64 q, .int .i64 k, .string s]) ∧ Below w.heap.size w w' := by
  go_enter Tryd.func138, Tryd.ntmps138
  go_wp2
  go_returns
  exact ⟨rfl, by go_grown⟩
theorem udpFields_any (a b : Int) (s : ByteArray) (w : World) :
    Calls Tryd.prog 141 #[.agg #[.int .i64 a, .int .i64 b, .string s]] w fun e w' => e = .returned (.agg #[.int .i64 0, .int .i64 0, .int .i64 17, .int .i64 a, .int .i64 b, .int .i64 0, .int .i64 0, .int .i64 0, .int .i64 0, .string s]) ∧ Below w.heap.size w w' := by
  go_enter Tryd.func141, Tryd.ntmps141
  go_wp2
  go_returns
  exact ⟨rfl, by go_grown⟩
theorem errFields_any (s : ByteArray) (w : World) :
    Calls Tryd.prog 144 #[.agg #[.string s]] w fun e w' => e = .returned (.agg #[.int .i64 0, .int .i64 0, .int .i64 1, .int .i64 0, .int .i64 0, .int .i64 3, .int .i64 0, .int .i64 0, .int .i64 0, .string s]) ∧ Below w.heap.size w w' := by
  go_enter Tryd.func144, Tryd.ntmps144
  go_wp2
  go_returns
  exact ⟨rfl, by go_grown⟩
theorem echoFields_any (c a q : Int) (s : ByteArray) (w : World) :
    Calls Tryd.prog 147 #[.agg #[.int .i64 c, .int .i64 a, .int .i64 q, .string s]] w fun e w' => e = .returned (.agg #[.int .i64 0, .int .i64 0, .int .i64 1, .int .i64 a, .int .i64 0, .int .i64 c, .int .i64 0, .int .i64 q, .int .i64 0, .string s]) ∧ Below w.heap.size w w' := by
  go_enter Tryd.func147, Tryd.ntmps147
  go_wp2
  go_returns
  exact ⟨rfl, by go_grown⟩
end Go.Proofs.YthfhbmiddillbagDoor
end

section
namespace Go.Proofs.YthfhbmiddillbagDoor
open Go.ChangeShapes Go.WideShapes Go.ChangeAt Go.RowKit
set_option linter.unusedVariables false

theorem meth_tcp_right (v : Value) (W : World) : (method 297 106 v "loop.example/g00542/impl.right").run Tryd.prog W = .ok (139, v) W := by kernel_rfl
theorem meth_tcp_fields (v : Value) (W : World) : (method 297 106 v "loop.example/g00542/impl.fields").run Tryd.prog W = .ok (138, v) W := by kernel_rfl
theorem meth_udp_right (v : Value) (W : World) : (method 297 108 v "loop.example/g00542/impl.right").run Tryd.prog W = .ok (142, v) W := by kernel_rfl
theorem meth_udp_fields (v : Value) (W : World) : (method 297 108 v "loop.example/g00542/impl.fields").run Tryd.prog W = .ok (141, v) W := by kernel_rfl
theorem meth_err_right (v : Value) (W : World) : (method 297 110 v "loop.example/g00542/impl.right").run Tryd.prog W = .ok (145, v) W := by kernel_rfl
theorem meth_err_fields (v : Value) (W : World) : (method 297 110 v "loop.example/g00542/impl.fields").run Tryd.prog W = .ok (144, v) W := by kernel_rfl
theorem meth_echo_right (v : Value) (W : World) : (method 297 112 v "loop.example/g00542/impl.right").run Tryd.prog W = .ok (148, v) W := by kernel_rfl
theorem meth_echo_fields (v : Value) (W : World) : (method 297 112 v "loop.example/g00542/impl.fields").run Tryd.prog W = .ok (147, v) W := by kernel_rfl
theorem enter_tcp_right (v : Value) (W : World) : (callFunc 139 #[v]).run Tryd.prog W = .ok (.enter 139 #[v]) W := by kernel_rfl
theorem enter_tcp_fields (v : Value) (W : World) : (callFunc 138 #[v]).run Tryd.prog W = .ok (.enter 138 #[v]) W := by kernel_rfl
theorem enter_udp_right (v : Value) (W : World) : (callFunc 142 #[v]).run Tryd.prog W = .ok (.enter 142 #[v]) W := by kernel_rfl
theorem enter_udp_fields (v : Value) (W : World) : (callFunc 141 #[v]).run Tryd.prog W = .ok (.enter 141 #[v]) W := by kernel_rfl
theorem enter_err_right (v : Value) (W : World) : (callFunc 145 #[v]).run Tryd.prog W = .ok (.enter 145 #[v]) W := by kernel_rfl
theorem enter_err_fields (v : Value) (W : World) : (callFunc 144 #[v]).run Tryd.prog W = .ok (.enter 144 #[v]) W := by kernel_rfl
theorem enter_echo_right (v : Value) (W : World) : (callFunc 148 #[v]).run Tryd.prog W = .ok (.enter 148 #[v]) W := by kernel_rfl
theorem enter_echo_fields (v : Value) (W : World) : (callFunc 147 #[v]).run Tryd.prog W = .ok (.enter 147 #[v]) W := by kernel_rfl
end Go.Proofs.YthfhbmiddillbagDoor
end

section
namespace Go.Proofs.YthfhbmiddillbagDoor
open Go.ChangeShapes Go.WideShapes Go.ChangeAt Go.RowKit
open Go.ChangeMaps (open_string shut_string)
set_option linter.unusedVariables false

theorem ret_bool {a b : Bool} (h : b = a) : Ending.returned (.bool a) = .returned (.bool b) := by rw [h]

set_option maxRecDepth 100000 in
set_option maxHeartbeats 2000000 in
theorem implRight_gen (p : Pk) (qa qb qk qf qs qc : Int) (T : TypeId) (val : Value) (fr ff : FuncId) (b : Bool) (w : World) (hs : p.body.size ≤ maxLen)
    (hPT : ∀ W, Calls Tryd.prog 52 #[.agg #[.int .i64 p.src, .int .i64 p.dst, .int .i64 p.proto, .int .i64 p.a, .int .i64 p.b, .int .i64 p.kind, .int .i64 p.flags, .int .i64 p.seq, .int .i64 p.ack, .string p.body]] W fun e w' => e = .returned (.iface T val) ∧ Below W.heap.size W w')
    (hm1 : ∀ W, (method 297 T val "loop.example/g00542/impl.right").run Tryd.prog W = .ok (fr, val) W)
    (hm2 : ∀ W, (method 297 T val "loop.example/g00542/impl.fields").run Tryd.prog W = .ok (ff, val) W)
    (hc1 : ∀ W, (callFunc fr #[val]).run Tryd.prog W = .ok (.enter fr #[val]) W)
    (hc2 : ∀ W, (callFunc ff #[val]).run Tryd.prog W = .ok (.enter ff #[val]) W)
    (hR : ∀ W, Calls Tryd.prog fr #[val] W fun e w' => e = .returned (.bool b) ∧ Below W.heap.size W w')
    (hF : ∀ W, Calls Tryd.prog ff #[val] W fun e w' => e = .returned (.agg #[.int .i64 0, .int .i64 0, .int .i64 p.proto, .int .i64 qa, .int .i64 qb, .int .i64 qk, .int .i64 qf, .int .i64 qs, .int .i64 qc, .string p.body]) ∧ Below W.heap.size W w')
    (hno : allA [p.src, p.dst] = false ∨ 100 < p.body.size ∨ b = false → rightB p = false)
    (hyes : allA [p.src, p.dst] = true → p.body.size ≤ 100 → b = true → rightB p = decide (qa = p.a ∧ qb = p.b ∧ qk = p.kind ∧ qf = p.flags ∧ qs = p.seq ∧ qc = p.ack)) :
    Calls Tryd.prog 43 #[.agg #[.int .i64 p.src, .int .i64 p.dst, .int .i64 p.proto, .int .i64 p.a, .int .i64 p.b, .int .i64 p.kind, .int .i64 p.flags, .int .i64 p.seq, .int .i64 p.ack, .string p.body]] w fun e w' => e = .returned (.bool (rightB p)) ∧ Below w.heap.size w w' := by
  have hs' : p.body.size ≤ 2 ^ 63 - 1 := hs
  have hB1 := hidS ((Below.refl w.heap.size w).alloc (Nat.le_refl _) (.cells #[.int .i64 p.src, .int .i64 p.dst, .int .i64 p.proto, .int .i64 p.a, .int .i64 p.b, .int .i64 p.kind, .int .i64 p.flags, .int .i64 p.seq, .int .i64 p.ack, .string p.body] 30))
  have HP := hidS (heap_newG w (.cells #[.int .i64 p.src, .int .i64 p.dst, .int .i64 p.proto, .int .i64 p.a, .int .i64 p.b, .int .i64 p.kind, .int .i64 p.flags, .int .i64 p.seq, .int .i64 p.ack, .string p.body] 30))
  have HPT := hidS hPT
  have HM1 := hidS hm1
  have HM2 := hidS hm2
  have HR := hidS hR
  have HF := hidS hF
  have HC1 := hidS hc1
  have HC2 := hidS hc2
  have HN := hidS hno
  have HY := hidS hyes
  clear hPT hm1 hm2 hR hF hc1 hc2 hno hyes
  cases h1 : allA [p.src, p.dst]
  · have e0 : Hid (rightB p = false) := HN.out (.inl h1)
    go_enter Tryd.func43, Tryd.ntmps43
    go_wp2_with fail
    refine (HPT.out _).mono ?_
    rintro e w2 ⟨rfl, hb2⟩
    have hG := blk_later HP.out hb2
    have hL := hidS (hB1.out.trans (hb2.mono hB1.out.size))
    clear hB1 HP hb2 HPT
    have c0 := blk_cell hG 0
    have c1 := blk_cell hG 1
    simp at c0 c1
    go_wp2_with fail
    refine (areAddrs_any w2.heap.size [p.src, p.dst] _ (two_cells _ _ _ _) (by simp)).mono ?_
    rintro e w3 ⟨rfl, rfl⟩
    rw [h1]
    have hL3 := hidS (hL.out.alloc hL.out.size (.cells #[.int .i64 p.src, .int .i64 p.dst] 2))
    generalize w2.alloc (.cells #[.int .i64 p.src, .int .i64 p.dst] 2) = w3 at hL3 ⊢
    go_wp2_with fail
    go_ret
    exact ⟨ret_bool e0.out, hL3.out⟩
  by_cases h2 : 100 < p.body.size
  · have e0 : Hid (rightB p = false) := HN.out (.inr (.inl h2))
    go_enter Tryd.func43, Tryd.ntmps43
    go_wp2_with fail
    refine (HPT.out _).mono ?_
    rintro e w2 ⟨rfl, hb2⟩
    have hG := blk_later HP.out hb2
    have hL := hidS (hB1.out.trans (hb2.mono hB1.out.size))
    clear hB1 HP hb2 HPT
    have c0 := blk_cell hG 0
    have c1 := blk_cell hG 1
    simp at c0 c1
    go_wp2_with fail
    refine (areAddrs_any w2.heap.size [p.src, p.dst] _ (two_cells _ _ _ _) (by simp)).mono ?_
    rintro e w3 ⟨rfl, rfl⟩
    rw [h1]
    have hG3 := blk_alloc hG (.cells #[.int .i64 p.src, .int .i64 p.dst] 2)
    have hL3 := hidS (hL.out.alloc hL.out.size (.cells #[.int .i64 p.src, .int .i64 p.dst] 2))
    generalize w2.alloc (.cells #[.int .i64 p.src, .int .i64 p.dst] 2) = w3 at hG3 hL3 ⊢
    clear hG hL c0 c1
    have c9 := blk_cell hG3 9
    simp at c9
    go_wp2_with fail
    go_ret
    exact ⟨ret_bool e0.out, hL3.out⟩
  have h2' : decide ((100 : Int) < (p.body.size : Int)) = false := by simp; omega
  go_enter Tryd.func43, Tryd.ntmps43
  go_wp2_with fail
  refine (HPT.out _).mono ?_
  rintro e w2 ⟨rfl, hb2⟩
  have hG := blk_later HP.out hb2
  have hL := hidS (hB1.out.trans (hb2.mono hB1.out.size))
  clear hB1 HP hb2 HPT
  have c0 := blk_cell hG 0
  have c1 := blk_cell hG 1
  simp at c0 c1
  go_wp2_with fail
  refine (areAddrs_any w2.heap.size [p.src, p.dst] _ (two_cells _ _ _ _) (by simp)).mono ?_
  rintro e w3 ⟨rfl, rfl⟩
  rw [h1]
  have hG3 := blk_alloc hG (.cells #[.int .i64 p.src, .int .i64 p.dst] 2)
  have hL3 := hidS (hL.out.alloc hL.out.size (.cells #[.int .i64 p.src, .int .i64 p.dst] 2))
  generalize w2.alloc (.cells #[.int .i64 p.src, .int .i64 p.dst] 2) = w3 at hG3 hL3 ⊢
  clear hG hL c0 c1
  have c9 := blk_cell hG3 9
  simp at c9
  go_wp2_with fail
  rw [HM1.out]
  go_wp2_with fail
  rw [HC1.out, Oper.upon_enter]
  refine (HR.out _).mono ?_
  rintro e w4 ⟨rfl, hb4⟩
  cases b
  · have e0 : Hid (rightB p = false) := HN.out (.inr (.inr rfl))
    have hL4 := hidS (hL3.out.trans (hb4.mono hL3.out.size))
    clear hG3 hL3 hb4 c9
    go_wp2_with fail
    go_ret
    exact ⟨ret_bool e0.out, hL4.out⟩
  have hG4 := blk_later hG3 hb4
  have hL4 := hidS (hL3.out.trans (hb4.mono hL3.out.size))
  clear hG3 hL3 hb4 c9
  go_wp2_with fail
  rw [HM2.out]
  go_wp2_with fail
  rw [HC2.out, Oper.upon_enter]
  refine (HF.out _).mono ?_
  rintro e w5 ⟨rfl, hb5⟩
  have hG5 := blk_later hG4 hb5
  have hL5 := hidS (hL4.out.trans (hb5.mono hL4.out.size))
  clear hG4 hL4 hb5 HM1 HM2 HF HC1 HC2 HR
  have hlt := blk_lt hG5
  have hL6 := fun o => hidS (hL5.out.alloc hL5.out.size o).drew
  clear hL5
  have c0 := blk_cell hG5 0
  have c1 := blk_cell hG5 1
  simp at c0 c1
  go_wp2_with fail
  go_region
  have c2 := blk_cell hG5 2
  have c3 := blk_cell hG5 3
  have c4 := blk_cell hG5 4
  have c5 := blk_cell hG5 5
  have c6 := blk_cell hG5 6
  have c7 := blk_cell hG5 7
  have c8 := blk_cell hG5 8
  have c9 := blk_cell hG5 9
  simp at c2 c3 c4 c5 c6 c7 c8 c9
  have HE := hidS (HY.out h1 (by omega) (by simp))
  clear hG5 HY HN
  go_wp2_with fail
  all_goals
    go_ret
    refine ⟨ret_bool ?_, (hL6 _).out⟩
    rw [HE.out]
    first
      | exact decide_eq_true ⟨by assumption, by assumption, by assumption, by assumption, by assumption, by assumption⟩
      | exact decide_eq_false (by rintro ⟨g1, g2, g3, g4, g5, g6⟩; contradiction)
end Go.Proofs.YthfhbmiddillbagDoor
end

section
namespace Go.Proofs.YthfhbmiddillbagDoor
open Go.ChangeShapes Go.WideShapes Go.ChangeAt Go.RowKit
open Go.ChangeMaps (open_string shut_string)
set_option linter.unusedVariables false

theorem allA2 (a b : Int) : allA [a, b] = (addrB a && addrB b) := by simp [allA]
theorem allW2 (a b : Int) : allW [a, b] = (wordB a && wordB b) := by simp [allW]

theorem right_tcp_no (p : Pk) (h6 : p.proto = 6) : allA [p.src, p.dst] = false ∨ 100 < p.body.size ∨ (allW [p.a, p.b] && allA [p.seq, p.ack] && flagB p.flags) = false → rightB p = false := by
  rw [allA2, allW2, allA2]
  rintro (h | h | h)
  · unfold rightB; rw [h]; simp
  · unfold rightB; rw [show decide (p.body.size ≤ 100) = false from by simp; omega]; simp
  · unfold rightB tcpB; rw [if_pos h6]; grind
theorem right_tcp_yes (p : Pk) (h6 : p.proto = 6) : allA [p.src, p.dst] = true → p.body.size ≤ 100 → (allW [p.a, p.b] && allA [p.seq, p.ack] && flagB p.flags) = true → rightB p = decide (p.a = p.a ∧ p.b = p.b ∧ 0 = p.kind ∧ p.flags = p.flags ∧ p.seq = p.seq ∧ p.ack = p.ack) := by
  rw [allA2, allW2, allA2]
  intro h1 h2 h3
  unfold rightB tcpB; rw [if_pos h6, h1, decide_eq_true h2]; grind
theorem right_udp_no (p : Pk) (h17 : p.proto = 17) : allA [p.src, p.dst] = false ∨ 100 < p.body.size ∨ (allW [p.a, p.b]) = false → rightB p = false := by
  rw [allA2, allW2]
  rintro (h | h | h)
  · unfold rightB; rw [h]; simp
  · unfold rightB; rw [show decide (p.body.size ≤ 100) = false from by simp; omega]; simp
  · unfold rightB udpB; rw [if_neg (by omega), if_pos h17]; grind
theorem right_udp_yes (p : Pk) (h17 : p.proto = 17) : allA [p.src, p.dst] = true → p.body.size ≤ 100 → (allW [p.a, p.b]) = true → rightB p = decide (p.a = p.a ∧ p.b = p.b ∧ 0 = p.kind ∧ 0 = p.flags ∧ 0 = p.seq ∧ 0 = p.ack) := by
  rw [allA2, allW2]
  intro h1 h2 h3
  unfold rightB udpB; rw [if_neg (by omega), if_pos h17, h1, decide_eq_true h2]; grind
theorem right_err_no (p : Pk) (h1 : p.proto = 1) (h3 : p.kind = 3) : allA [p.src, p.dst] = false ∨ 100 < p.body.size ∨ (decide (28 ≤ p.body.size)) = false → rightB p = false := by
  rw [allA2]
  rintro (h | h | h)
  · unfold rightB; rw [h]; simp
  · unfold rightB; rw [show decide (p.body.size ≤ 100) = false from by simp; omega]; simp
  · unfold rightB pingB; rw [if_neg (by omega), if_neg (by omega), if_pos h1, if_pos h3, h]; simp
theorem right_err_yes (p : Pk) (h1 : p.proto = 1) (h3 : p.kind = 3) : allA [p.src, p.dst] = true → p.body.size ≤ 100 → (decide (28 ≤ p.body.size)) = true → rightB p = decide (0 = p.a ∧ 0 = p.b ∧ 3 = p.kind ∧ 0 = p.flags ∧ 0 = p.seq ∧ 0 = p.ack) := by
  rw [allA2]
  intro g1 g2 g3
  unfold rightB pingB; rw [if_neg (by omega), if_neg (by omega), if_pos h1, if_pos h3, g1, g3, decide_eq_true g2]; grind
theorem right_echo_no (p : Pk) (h1 : p.proto = 1) (h3 : p.kind ≠ 3) : allA [p.src, p.dst] = false ∨ 100 < p.body.size ∨ ((decide (p.kind = 8) || decide (p.kind = 0)) && allW [p.a, p.seq]) = false → rightB p = false := by
  rw [allA2, allW2]
  rintro (h | h | h)
  · unfold rightB; rw [h]; simp
  · unfold rightB; rw [show decide (p.body.size ≤ 100) = false from by simp; omega]; simp
  · unfold rightB pingB; rw [if_neg (by omega), if_neg (by omega), if_pos h1, if_neg h3]; grind
theorem right_echo_yes (p : Pk) (h1 : p.proto = 1) (h3 : p.kind ≠ 3) : allA [p.src, p.dst] = true → p.body.size ≤ 100 → ((decide (p.kind = 8) || decide (p.kind = 0)) && allW [p.a, p.seq]) = true → rightB p = decide (p.a = p.a ∧ 0 = p.b ∧ p.kind = p.kind ∧ 0 = p.flags ∧ p.seq = p.seq ∧ 0 = p.ack) := by
  rw [allA2, allW2]
  intro g1 g2 g3
  unfold rightB pingB; rw [if_neg (by omega), if_neg (by omega), if_pos h1, if_neg h3, g1, decide_eq_true g2]; grind
theorem right_none (p : Pk) (h6 : p.proto ≠ 6) (h17 : p.proto ≠ 17) (h1 : p.proto ≠ 1) : rightB p = false := by
  unfold rightB; rw [if_neg h6, if_neg h17, if_neg h1]; simp

theorem implRight_none (p : Pk) (w : World) (h6 : p.proto ≠ 6) (h17 : p.proto ≠ 17) (h1 : p.proto ≠ 1) :
    Calls Tryd.prog 43 #[.agg #[.int .i64 p.src, .int .i64 p.dst, .int .i64 p.proto, .int .i64 p.a, .int .i64 p.b, .int .i64 p.kind, .int .i64 p.flags, .int .i64 p.seq, .int .i64 p.ack, .string p.body]] w fun e w' => e = .returned (.bool (rightB p)) ∧ Below w.heap.size w w' := by
  have e0 : Hid (rightB p = false) := right_none p h6 h17 h1
  have hB1 := hidS ((Below.refl w.heap.size w).alloc (Nat.le_refl _) (.cells #[.int .i64 p.src, .int .i64 p.dst, .int .i64 p.proto, .int .i64 p.a, .int .i64 p.b, .int .i64 p.kind, .int .i64 p.flags, .int .i64 p.seq, .int .i64 p.ack, .string p.body] 30))
  have hPT := hidS (fun W => partOf_none p W h6 h17 h1)
  clear h6 h17 h1
  go_enter Tryd.func43, Tryd.ntmps43
  go_wp2_with fail
  refine (hPT.out _).mono ?_
  rintro e w2 ⟨rfl, hb2⟩
  have hL := hidS (hB1.out.trans (hb2.mono hB1.out.size))
  clear hB1 hb2 hPT
  go_wp2_with fail
  go_ret
  exact ⟨ret_bool e0.out, hL.out⟩

theorem implRight_any (p : Pk) (w : World) (hs : p.body.size ≤ maxLen) :
    Calls Tryd.prog 43 #[.agg #[.int .i64 p.src, .int .i64 p.dst, .int .i64 p.proto, .int .i64 p.a, .int .i64 p.b, .int .i64 p.kind, .int .i64 p.flags, .int .i64 p.seq, .int .i64 p.ack, .string p.body]] w fun e w' => e = .returned (.bool (rightB p)) ∧ Below w.heap.size w w' := by
  by_cases h6 : p.proto = 6
  · exact implRight_gen p p.a p.b 0 p.flags p.seq p.ack 106 (.agg #[.int .i64 p.a, .int .i64 p.b, .int .i64 p.seq, .int .i64 p.ack, .int .i64 p.flags, .string p.body]) 139 138 _ w hs
      (fun W => partOf_tcp p W h6) (meth_tcp_right _) (meth_tcp_fields _) (enter_tcp_right _) (enter_tcp_fields _) (fun W => tcpRight_any p.a p.b p.seq p.ack p.flags p.body W) (fun W => by rw [h6]; exact tcpFields_any p.a p.b p.seq p.ack p.flags p.body W) (right_tcp_no p h6) (right_tcp_yes p h6)
  by_cases h17 : p.proto = 17
  · exact implRight_gen p p.a p.b 0 0 0 0 108 (.agg #[.int .i64 p.a, .int .i64 p.b, .string p.body]) 142 141 _ w hs
      (fun W => partOf_udp p W h17) (meth_udp_right _) (meth_udp_fields _) (enter_udp_right _) (enter_udp_fields _) (fun W => udpRight_any p.a p.b p.body W) (fun W => by rw [h17]; exact udpFields_any p.a p.b p.body W) (right_udp_no p h17) (right_udp_yes p h17)
  by_cases h1 : p.proto = 1
  · by_cases h3 : p.kind = 3
    · exact implRight_gen p 0 0 3 0 0 0 110 (.agg #[.string p.body]) 145 144 _ w hs
        (fun W => partOf_err p W h1 h3) (meth_err_right _) (meth_err_fields _) (enter_err_right _) (enter_err_fields _) (fun W => errRight_any p.body W hs) (fun W => by rw [h1]; exact errFields_any p.body W) (right_err_no p h1 h3) (right_err_yes p h1 h3)
    · exact implRight_gen p p.a 0 p.kind 0 p.seq 0 112 (.agg #[.int .i64 p.kind, .int .i64 p.a, .int .i64 p.seq, .string p.body]) 148 147 _ w hs
        (fun W => partOf_echo p W h1 h3) (meth_echo_right _) (meth_echo_fields _) (enter_echo_right _) (enter_echo_fields _) (fun W => echoRight_any p.kind p.a p.seq p.body W) (fun W => by rw [h1]; exact echoFields_any p.kind p.a p.seq p.body W) (right_echo_no p h1 h3) (right_echo_yes p h1 h3)
  · exact implRight_none p w h6 h17 h1
end Go.Proofs.YthfhbmiddillbagDoor
end

section
namespace Go.Proofs.YthfhbmiddillbagDoor
open Go.ChangeShapes Go.WideShapes Go.ChangeAt Go.RowKit
open Go.ChangeMaps (open_string shut_string)
set_option linter.unusedVariables false

theorem ret_int' {k : IntKind} {a b : Int} (h : a = b) : Ending.returned (.int k a) = .returned (.int k b) := by rw [h]
theorem val_int' {k : IntKind} {a b : Int} (h : a = b) : Value.int k a = .int k b := by rw [h]

def bytesV (l : List UInt8) : List Value := l.map fun c => .int .u8 (c.toNat : Int)
theorem bytesV_snoc (l : List UInt8) (c : UInt8) : bytesV (l ++ [c]) = bytesV l ++ [.int .u8 (c.toNat : Int)] := by simp [bytesV]

theorem Tryd.infoU8 : (Tryd.prog.info? 5).map (fun i => (i.zero, i.size, i.bytes)) = some (some (.int .u8 0), 1, 1) := by kernel_rfl

theorem heap_new (w : World) (o : Obj) : (w.alloc o).heap[w.heap.size]? = some o := by show (w.heap.push o)[w.heap.size]? = _; simp

/-- a slice that owns the bytes l, as a string -/
theorem conv_own {w : World} {B : Nat} {v : Value} {l : List UInt8} (h : w.ownsRow B 5 1 v l.length (bytesV l)) :
    (convert 72 9 v).run Tryd.prog w = .ok (.string ⟨l.toArray⟩) w := by
  have h0 := h
  rcases h.2 with ⟨rfl, hn⟩ | ⟨g, cap, cur, rfl, hg, hh, hnc, hcp, hcs, htake⟩
  · obtain rfl : l = [] := List.length_eq_zero_iff.1 hn
    rw [run_convert_bytes_string w 72 9 5 none 0 0 Tryd.underlying72 Tryd.underlying5 Tryd.underlying9]
    simp [Conv.bytesToString]
    rfl
  · exact run_convert_bytes_back (P := Tryd.prog) w 72 9 5 ⟨g, 0, none⟩ cap l Tryd.underlying72 Tryd.underlying5 Tryd.underlying9 (fun j hj => by
      rw [Addr.add_lit, Nat.zero_add, h0.cellAt j (by omega)]
      simp [bytesV, hj])

theorem own_snoc {w : World} {B : Nat} {v : Value} {l : List UInt8} {c : UInt8} {x : Int} (hx : x = (c.toNat : Int)) (h : w.ownsRow B 5 1 v (l.length + 1) (bytesV l ++ [.int .u8 x])) :
    w.ownsRow B 5 1 v (l ++ [c]).length (bytesV (l ++ [c])) := by
  rw [bytesV_snoc, List.length_append, ← hx]; exact h

/-- behind a byte that was appended to a slice of the call's own -/
theorem below_app {B : Nat} {w wr w1 : World} {v : Value} {n : Nat} {xs : List Value} {o : Obj} (hbel : Below B w wr) (hB : B ≤ wr.heap.size) (hown : wr.ownsRow B 5 1 v n xs) (hg : (wr.alloc o).grownBy w1 v.ownBlock) : Below B w w1 :=
  (hbel.alloc hB o).grown hg (by simp; omega) (fun k hk => (hown.lt k hk).1)
end Go.Proofs.YthfhbmiddillbagDoor
end

section
namespace Go.Proofs.YthfhbmiddillbagDoor
open Go.ChangeShapes Go.WideShapes Go.ChangeAt Go.RowKit
open Go.ChangeMaps (open_string shut_string)
set_option linter.unusedVariables false

set_option maxRecDepth 1000000 in
theorem Tryd.sizeU8 (w : World) : (Go.sizeOf 5).run Tryd.prog w = .ok 1 w := by rfl

/-- 'copy(b[bp:], s)', s a string, bp = how much is filled -/
theorem copy_text (w0 wr : World) (h N : Nat) (acc : List UInt8) (s : ByteArray) (ty : TypeId) (hh : w0.heap.size ≤ h)
    (hb : Lib.Buf w0 wr h N acc) (hfit : acc.length + s.size ≤ N) :
    ∃ wr', (Builtin.copy_ #[72, 9] ty #[Lib.tailV h N acc.length, .string s]).run Tryd.prog wr = .ok (.int .i64 (s.size : Int)) wr' ∧ Lib.Buf w0 wr' h N (acc ++ s.data.toList) := by
  have hsl : s.data.toList.length = s.size := by simp
  by_cases hl : s.size = 0
  · have he : s.data.toList = [] := List.length_eq_zero_iff.1 (by rw [hsl]; exact hl)
    refine ⟨wr, ?_, by rw [he]; simpa using hb⟩
    unfold Lib.tailV
    have := run_copy_string (P := Tryd.prog) wr 72 9 ty 5 h (if N = acc.length then 0 else acc.length) (N - acc.length) (N - acc.length) s Tryd.underlying72 Tryd.sizeU8 (by omega) (fun j hj => by omega) (fun j hj => by omega)
    rw [he] at this
    split <;> simp_all [World.setCells, goInt]
  · have hne : ¬ N = acc.length := by omega
    have hr := run_copy_string (P := Tryd.prog) wr 72 9 ty 5 h acc.length (N - acc.length) (N - acc.length) s Tryd.underlying72 Tryd.sizeU8 (by omega)
      (fun j hj => hb.there _ (by omega)) (fun j hj => hb.free _ (by omega))
    refine ⟨_, by unfold Lib.tailV; rw [if_neg hne]; exact hr, ?_⟩
    have hin := World.cell?_setCells_in h (s.data.toList.map fun x => Value.int .u8 (x.toNat : Int)) acc.length wr (fun j hj => by rw [List.length_map, hsl] at hj; exact hb.there _ (by omega))
    have hout := World.cell?_setCells_out h (s.data.toList.map fun x => Value.int .u8 (x.toNat : Int)) acc.length wr
    refine ⟨?_, ?_, ?_, ?_, by rw [List.length_append, hsl]; exact hfit⟩
    · exact Lib.below_setCells h (Nat.le_refl _) _ _ hb.below
    · intro j hj
      by_cases h1 : acc.length ≤ j ∧ j < acc.length + s.size
      · obtain ⟨d, rfl⟩ : ∃ d, j = acc.length + d := ⟨j - acc.length, by omega⟩
        rw [hin d (by rw [List.length_map, hsl]; omega)]
        rfl
      · rw [hout ⟨h, j, none⟩ (fun _ _ => by rw [List.length_map, hsl]; show j < _ ∨ _ ≤ j; omega)]
        exact hb.there j hj
    · intro j hj
      rw [World.frozen?_setCells]
      exact hb.free j hj
    · intro j x hx
      by_cases h1 : j < acc.length
      · rw [List.getElem?_append_left h1] at hx
        rw [hout ⟨h, j, none⟩ (fun _ _ => Or.inl h1)]
        exact hb.holds j x hx
      · rw [List.getElem?_append_right (by omega)] at hx
        obtain ⟨d, rfl⟩ : ∃ d, j = acc.length + d := ⟨j - acc.length, by omega⟩
        rw [Nat.add_sub_cancel_left] at hx
        have hd : d < s.data.toList.length := (List.getElem?_eq_some_iff.1 hx).1
        rw [hin d (by rw [List.length_map]; exact hd)]
        simp only [List.getElem_map]
        rw [(List.getElem?_eq_some_iff.1 hx).2]

/-- the buffer filled, as a string -/
theorem conv_buf {w0 wr : World} {h N : Nat} {acc : List UInt8} (hb : Lib.Buf w0 wr h N acc) (hN : acc.length = N) :
    (convert 72 9 (.slice (some ⟨h, 0, none⟩) N N)).run Tryd.prog wr = .ok (.string ⟨acc.toArray⟩) wr := by
  subst hN
  exact run_convert_bytes_back (P := Tryd.prog) wr 72 9 5 ⟨h, 0, none⟩ acc.length acc Tryd.underlying72 Tryd.underlying5 Tryd.underlying9 (fun j hj => by
      rw [Addr.add_lit, Nat.zero_add]
      exact hb.holds j _ (List.getElem?_eq_getElem hj))

set_option maxRecDepth 100000 in
set_option maxHeartbeats 1000000 in
theorem joinTexts_two (a b : ByteArray) (k : Nat) (w : World) (ha : w.cell? ⟨k, 0, none⟩ = some (.string a)) (hb : w.cell? ⟨k, 1, none⟩ = some (.string b)) (hs : a.size + b.size ≤ 1099511627776) :
    Calls Tryd.prog 73 #[.slice (some ⟨k, 0, none⟩) 2 2] w fun e w' => e = .returned (.string (a ++ b)) ∧ Below w.heap.size w w' := by
  obtain ⟨N, hN⟩ : ∃ N, N = a.size + b.size := ⟨_, rfl⟩
  have hmk : ∀ W, (Instr.makeSlice 72 (.int .i64 ((a.size : Int) + (b.size : Int))) (.int .i64 ((a.size : Int) + (b.size : Int)))).run Tryd.prog W = .ok (.slice (some ⟨W.heap.size, 0, none⟩) N N) (W.alloc (.cells (madeCells #[.int .u8 0] N) 5)) := by
    intro W
    have := run_make_row' (P := Tryd.prog) 72 5 (.int .u8 0) 1 Tryd.underlying72 Tryd.infoU8 rfl .i64 .i64 N (by omega) (by omega) W
    rw [show ((N : Nat) : Int) = (a.size : Int) + (b.size : Int) from by omega] at this
    exact this
  have hsl0 : ∀ W, (Instr.slice 72 (.slice (some ⟨w.heap.size, 0, none⟩) N N) (some (.int .i64 0)) none none).run Tryd.prog W = .ok (Lib.tailV w.heap.size N 0) W := fun W => Lib.run_slice_tailV W 72 5 Tryd.underlying72 Tryd.sizeU8 w.heap.size N 0 (by omega)
  have hsl1 : ∀ W, (Instr.slice 72 (.slice (some ⟨w.heap.size, 0, none⟩) N N) (some (.int .i64 (a.size : Int))) none none).run Tryd.prog W = .ok (Lib.tailV w.heap.size N a.size) W := fun W => Lib.run_slice_tailV W 72 5 Tryd.underlying72 Tryd.sizeU8 w.heap.size N a.size (by omega)
  have hk : k < w.heap.size := World.block_lt_of_cell? w ⟨k, 0, none⟩ ha
  have hbuf0 : Lib.Buf w (w.alloc (.cells (madeCells #[.int .u8 0] N) 5)) w.heap.size N [] := Lib.Buf.start w _ 5 N 0 (by rw [size_madeCells]; omega)
  obtain ⟨w1, hr1, hbuf1⟩ := copy_text w _ w.heap.size N [] a 3 (Nat.le_refl _) hbuf0 (by simp; omega)
  obtain ⟨w2, hr2, hbuf2⟩ := copy_text w w1 w.heap.size N _ b 3 (Nat.le_refl _) hbuf1 (by simp; omega)
  have hlen : ([] ++ a.data.toList).length = a.size := by simp
  rw [hlen] at hr2
  have hb1 : w1.cell? ⟨k, 1, none⟩ = some (.string b) := (hbuf1.below.cell (p := ⟨k, 1, none⟩) hk).trans hb
  have hcv := conv_buf hbuf2 (by simp; omega)
  have hend : (⟨(([] ++ a.data.toList) ++ b.data.toList).toArray⟩ : ByteArray) = a ++ b := ByteArray.ext (by simp)
  rw [hend] at hcv
  have hbel : Below w.heap.size w w2 := hbuf2.below
  have HN : Hid (N = a.size + b.size) := hN
  clear hN hbuf0 hbuf1 hbuf2 hlen hend
  simp only [List.length_nil] at hr1
  go_enter Tryd.func73, Tryd.ntmps73
  go_wp2
  refine wp_loop_rounds 3 ?_
  rw [rounds_succ]
  go_wp2
  rw [rounds_succ]
  go_wp2
  rw [rounds_succ]
  go_wp2
  refine wp_loop_rounds 3 ?_
  rw [rounds_succ]
  go_wp2
  rw [rounds_succ]
  go_wp2
  rw [rounds_succ]
  go_wp2
  go_ret
  exact ⟨rfl, hbel⟩
end Go.Proofs.YthfhbmiddillbagDoor
end

section
namespace Go.Proofs.YthfhbmiddillbagDoor
open Go.ChangeShapes Go.WideShapes Go.ChangeAt Go.RowKit
open Go.ChangeMaps (open_string shut_string)
set_option linter.unusedVariables false

/-- several texts, one behind another -/
def catL (ts : List ByteArray) : List UInt8 := ts.flatMap fun t => t.data.toList
def catT (ts : List ByteArray) : ByteArray := ⟨(catL ts).toArray⟩
theorem catL_snoc (ts : List ByteArray) (t : ByteArray) : catL (ts ++ [t]) = catL ts ++ t.data.toList := by simp [catL]
theorem catL_take_succ (ts : List ByteArray) (k : Nat) (h : k < ts.length) : catL (ts.take (k + 1)) = catL (ts.take k) ++ ts[k].data.toList := by rw [List.take_succ_eq_append_getElem h, catL_snoc]
theorem catL_take_le (ts : List ByteArray) (k : Nat) : (catL (ts.take k)).length ≤ (catL ts).length := by
  have : catL ts = catL (ts.take k) ++ catL (ts.drop k) := by unfold catL; rw [← List.flatMap_append, List.take_append_drop]
  rw [this, List.length_append]; omega
theorem catL_len (n : Nat) (ts : List ByteArray) (h : ∀ t ∈ ts, t.size ≤ 100000) (hl : ts.length ≤ n) : (catL ts).length ≤ 100000 * n := by
  induction ts generalizing n with
  | nil => simp [catL]
  | cons t ts ih =>
    cases n with
    | zero => simp at hl
    | succ n =>
      have h1 := ih n (fun x hx => h x (List.mem_cons_of_mem _ hx)) (by simpa using hl)
      have h3 := h t List.mem_cons_self
      have h4 : t.data.toList.length = t.size := by simp
      have e : catL (t :: ts) = t.data.toList ++ catL ts := rfl
      rw [e, List.length_append]
      omega

set_option maxRecDepth 100000 in
set_option maxHeartbeats 1000000 in
theorem joinTexts_any (g : Nat) (ts : List ByteArray) (w : World) (hc : ∀ j, (h : j < ts.length) → w.cell? ⟨g, j, none⟩ = some (.string ts[j])) (hg : g < w.heap.size) (hl : ts.length ≤ 1000) (hs : ∀ t ∈ ts, t.size ≤ 100000) :
    Calls Tryd.prog 73 #[.slice (some ⟨g, 0, none⟩) ts.length ts.length] w fun e w' => e = .returned (.string (catT ts)) ∧ Below w.heap.size w w' := by
  have HC := hidS hc
  have HS := hidS hs
  clear hc hs
  obtain ⟨N, hN⟩ : ∃ N, N = (catL ts).length := ⟨_, rfl⟩
  have hNle : (N : Int) ≤ 100000000 := by have := catL_len 1000 ts HS.out hl; omega
  have hmk : ∀ W, (Instr.makeSlice 72 (.int .i64 (N : Int)) (.int .i64 (N : Int))).run Tryd.prog W = .ok (.slice (some ⟨W.heap.size, 0, none⟩) N N) (W.alloc (.cells (madeCells #[.int .u8 0] N) 5)) := fun W =>
    run_make_row' (P := Tryd.prog) 72 5 (.int .u8 0) 1 Tryd.underlying72 Tryd.infoU8 rfl .i64 .i64 N (by omega) (by omega) W
  have hsl := fun W (k : Nat) (hk : k ≤ N) => Lib.run_slice_tailV (P := Tryd.prog) W 72 5 Tryd.underlying72 Tryd.sizeU8 w.heap.size N k (by omega)
  have HN : Hid (N = (catL ts).length) := hN
  have HSL := hidS hsl
  clear hN hsl
  have hbuf0 : Lib.Buf w (w.alloc (.cells (madeCells #[.int .u8 0] N) 5)) w.heap.size N [] := Lib.Buf.start w _ 5 N 0 (by rw [size_madeCells]; omega)
  have HB0 := hidS hbuf0
  clear hbuf0
  go_enter Tryd.func73, Tryd.ntmps73
  go_wp2
  go_loop [3, 12] (fun v i => ∃ k x : Nat, k ≤ ts.length ∧ i = .int .i64 k ∧ v = .int .i64 x ∧ (x : Int) ≤ 100000000 ∧ Hid (x = (catL (ts.take k)).length)) (fun _ i => ts.length - (intOf i).toNat)
  case atStart => exact ⟨0, 0, by omega, rfl, rfl, by omega, rfl⟩
  case round =>
    obtain ⟨k, x, hk, rfl, rfl, hx, hX⟩ := hrel
    by_cases h : k < ts.length
    · have h' : (k : Int) < (ts.length : Int) := by omega
      have hck := HC.out k h
      have hE : Hid (x + ts[k].size = (catL (ts.take (k + 1))).length) := by show _ = _; rw [catL_take_succ ts k h, List.length_append, ← hX.out]; simp
      have hle : x + ts[k].size ≤ N := by rw [hE.out, HN.out]; exact catL_take_le ts (k + 1)
      generalize ts[k] = t at *
      clear hX
      go_wp2
      go_round
      case rel => exact ⟨k + 1, x + t.size, by omega, by go_num, by go_num, by omega, hE⟩
      case measure => simp [intOf]; omega
    · have h' : ¬ (k : Int) < (ts.length : Int) := by omega
      obtain rfl : x = N := by have := hX.out; rw [List.take_of_length_le (by omega)] at this; rw [HN.out]; exact this
      clear hX
      go_wp2
      have HCW : Hid (∀ j, (h : j < ts.length) → ∀ wr, Below w.heap.size w wr → wr.cell? ⟨g, j, none⟩ = some (.string ts[j])) := fun j h wr hb => (hb.cell (p := ⟨g, j, none⟩) hg).trans (HC.out j h)
      clear HC hmk
      go_loopw [7, 25] (fun v i wr => ∃ k : Nat, k ≤ ts.length ∧ i = .int .i64 k ∧ v = .int .i64 ((catL (ts.take k)).length : Nat) ∧ Hid (Lib.Buf w wr w.heap.size x (catL (ts.take k)))) (fun _ i _ => ts.length - (intOf i).toNat)
      case atStart => exact ⟨0, by omega, rfl, rfl, HB0⟩
      case round =>
        obtain ⟨k, hk, rfl, rfl, hBuf⟩ := hrel
        by_cases h : k < ts.length
        · have h' : (k : Int) < (ts.length : Int) := by omega
          have hck := HCW.out k h wr hBuf.out.below
          have hle : (catL (ts.take k)).length + ts[k].size ≤ x := by
            have := catL_take_le ts (k + 1)
            rw [catL_take_succ ts k h, List.length_append, ← HN.out] at this
            simpa using this
          have hsl := HSL.out wr (catL (ts.take k)).length (by omega)
          obtain ⟨w1, hr1, hbuf1⟩ := copy_text w wr w.heap.size x (catL (ts.take k)) ts[k] 3 (Nat.le_refl _) hBuf.out hle
          have HB1 : Hid (Lib.Buf w w1 w.heap.size x (catL (ts.take (k + 1)))) := by rw [catL_take_succ ts k h]; exact hbuf1
          have hE : Hid ((catL (ts.take (k + 1))).length = (catL (ts.take k)).length + ts[k].size) := by show _ = _; rw [catL_take_succ ts k h, List.length_append]; simp
          clear hbuf1 hBuf
          generalize ts[k] = t at *
          generalize (catL (ts.take k)).length = m at *
          go_wp2
          go_roundw
          case rel => exact ⟨k + 1, by omega, by go_num, by rw [hE.out]; go_num, HB1⟩
          case measure => simp [intOf]; omega
        · have h' : ¬ (k : Int) < (ts.length : Int) := by omega
          have hB2 : Lib.Buf w wr w.heap.size x (catL ts) := by have := hBuf.out; rw [List.take_of_length_le (by omega)] at this; exact this
          have hcv := conv_buf hB2 HN.out.symm
          have hbel := hidS hB2.below
          clear hB2 hBuf
          go_wp2
          go_ret
          exact ⟨rfl, hbel.out⟩
end Go.Proofs.YthfhbmiddillbagDoor
end

section
namespace Go.Proofs.YthfhbmiddillbagDoor
open Go.ChangeShapes Go.WideShapes Go.ChangeAt Go.RowKit
open Go.ChangeMaps (open_string shut_string)
set_option linter.unusedVariables false

theorem implWordText_any (n : Int) (w : World) :
    Calls Tryd.prog 77 #[.int .i64 n] w fun e w' => e = .returned (.string (wordT n)) ∧ Below w.heap.size w w' := by
  have hB := fun o => (Below.refl w.heap.size w).alloc (Nat.le_refl _) o
  have HB := hidS hB
  clear hB
  by_cases h : allW [n] = true
  · have h1 : wordB n = true := by simpa [allW] using h
    have e : Hid (wordT n = ⟨#[UInt8.ofNat (n.toNat / 256), UInt8.ofNat (n.toNat % 256)]⟩) := if_pos h1
    obtain ⟨m, rfl⟩ : ∃ m : Nat, n = m := ⟨n.toNat, by have := wordB_iff.1 h1; omega⟩
    have hm := (wordB_iff.1 h1).2
    clear h1
    go_enter Tryd.func77, Tryd.ntmps77
    go_wp2_with fail
    refine (areWords_any w.heap.size [(m : Int)] _ (one_cell _ _ _) (by simp)).mono ?_
    rintro e w1 ⟨rfl, rfl⟩
    rw [h]
    have hcv := conv_two ((w.alloc (.cells #[.int .i64 (m : Int)] 2)).alloc (.cells #[.int .u8 ((m : Int) / 256), .int .u8 ((m : Int) % 256)] 5)) (w.heap.size + 1) m (by omega) (cell_at1 _ _ _ _) (cell_at1 _ _ _ _)
    have hbb := hidS ((HB.out (.cells #[.int .i64 (m : Int)] 2)).alloc (by simp) (.cells #[.int .u8 ((m : Int) / 256), .int .u8 ((m : Int) % 256)] 5))
    go_wp2
    go_ret
    exact ⟨by rw [e.out]; rfl, hbb.out⟩
  · have e : Hid (wordT n = ⟨#[]⟩) := if_neg (fun g => h (by simpa [allW] using g))
    have h' : allW [n] = false := by simpa using h
    clear h
    go_enter Tryd.func77, Tryd.ntmps77
    go_wp2_with fail
    refine (areWords_any w.heap.size [n] _ (one_cell _ _ _) (by simp)).mono ?_
    rintro e w1 ⟨rfl, rfl⟩
    rw [h']
    go_wp2
    go_ret
    exact ⟨by rw [e.out]; rfl, HB.out _⟩
end Go.Proofs.YthfhbmiddillbagDoor
end

section
namespace Go.Proofs.YthfhbmiddillbagDoor
open Go.ChangeShapes Go.WideShapes Go.ChangeAt Go.RowKit
open Go.ChangeMaps (open_string shut_string)
set_option linter.unusedVariables false
set_option maxRecDepth 100000

theorem wordT_two {x : Int} (h : wordB x = true) : wordT x = twoT x.toNat := if_pos h
theorem implWord_x (x : Int) (w : World) (h : wordB x = true) :
    Calls Tryd.prog 77 #[.int .i64 x] w fun e w' => e = .returned (.string (twoT x.toNat)) ∧ Below w.heap.size w w' := by
  rw [← wordT_two h]; exact implWordText_any x w
theorem implWord_of {x : Int} (n : Nat) (w : World) (hx : x = (n : Int)) (hn : n ≤ 65535) :
    Calls Tryd.prog 77 #[.int .i64 x] w fun e w' => e = .returned (.string (twoT n)) ∧ Below w.heap.size w w' := by
  subst hx; exact implWord_x (n : Int) w (wordB_iff.2 ⟨by omega, by omega⟩)
theorem cat2 (a b : ByteArray) : catT [a, b] = a ++ b := ByteArray.ext (by simp [catT, catL])

set_option maxHeartbeats 1000000 in
theorem longText_x (x : Int) (w : World) (h : addrB x = true) :
    Calls Tryd.prog 93 #[.int .i64 x] w fun e w' => e = .returned (.string (fourT x.toNat)) ∧ Below w.heap.size w w' := by
  obtain ⟨n, rfl⟩ : ∃ n : Nat, x = n := ⟨x.toNat, by have := addrB_iff.1 h; omega⟩
  have hn : n ≤ 4294967295 := by have := (addrB_iff.1 h).2; omega
  have hlow := i64_low16 n (by omega)
  clear h
  go_enter Tryd.func93, Tryd.ntmps93
  go_wp2_with fail
  refine (implWord_of (n / 65536) _ (by omega) (by omega)).mono ?_
  rintro _ w1 ⟨rfl, hb1⟩
  go_wp2_with fail
  refine (implWord_of (n % 65536) _ (by omega) (by omega)).mono ?_
  rintro _ w2 ⟨rfl, hb2⟩
  have hL := hidS (hb1.trans (hb2.mono hb1.size))
  clear hb1 hb2
  have hv := vals_at (W := w2) [.string (twoT (n / 65536)), .string (twoT (n % 65536))] 9
  have hA := hidS (hL.out.alloc hL.out.size (.cells #[.string (twoT (n / 65536)), .string (twoT (n % 65536))] 9))
  have hj := joinTexts_any w2.heap.size [twoT (n / 65536), twoT (n % 65536)] _ (ValsAt.strs (ts := [twoT (n / 65536), twoT (n % 65536)]) hv) hv.1 (by simp) (by simp [twoT_size])
  have HJ := hidS hj
  clear hv hj hL
  go_wp2_with fail
  refine HJ.out.mono ?_
  rintro _ w3 ⟨rfl, hb3⟩
  have hE := hidS (hA.out.trans (hb3.mono hA.out.size))
  rw [cat2]
  clear hb3 hA HJ
  go_wp2_with fail
  go_ret
  exact ⟨rfl, hE.out⟩
end Go.Proofs.YthfhbmiddillbagDoor
end

section
namespace Go.Proofs.YthfhbmiddillbagDoor
open Go.ChangeShapes Go.WideShapes Go.ChangeAt Go.RowKit
set_option linter.unusedVariables false

/-- a row of bytes that may be written -/
def Row8 (g : Nat) (l : List UInt8) (W : World) : Prop := g < W.heap.size ∧ ∀ j, (h : j < l.length) → W.cell? ⟨g, j, none⟩ = some (.int .u8 (l[j].toNat : Int)) ∧ W.frozen? ⟨g, j, none⟩ = false
theorem Row8.later {g : Nat} {l : List UInt8} {W W' : World} (h : Row8 g l W) (hb : Below W.heap.size W W') : Row8 g l W' := ⟨Nat.lt_of_lt_of_le h.1 hb.size, fun j hj => ⟨(hb.cell (p := ⟨g, j, none⟩) h.1).trans (h.2 j hj).1, (hb.frozen (p := ⟨g, j, none⟩) h.1).trans (h.2 j hj).2⟩⟩
theorem Row8.bytes {g : Nat} {l : List UInt8} {W : World} (h : Row8 g l W) : BytesAt g l W := ⟨h.1, fun j hj => (h.2 j hj).1⟩
/-- some bytes over others -/
def over (l : List UInt8) (o : Nat) (m : List UInt8) : List UInt8 := l.take o ++ m ++ l.drop (o + m.length)
theorem over_length {l : List UInt8} {o : Nat} {m : List UInt8} (h : o + m.length ≤ l.length) : (over l o m).length = l.length := by simp [over]; omega
theorem over_in {l : List UInt8} {o : Nat} {m : List UInt8} (h : o + m.length ≤ l.length) (j : Nat) (hj : j < m.length) : (over l o m)[o + j]'(by rw [over_length h]; omega) = m[j] := by
  simp only [over]
  rw [List.getElem_append_left (by simp; omega), List.getElem_append_right (by simp; omega)]
  have e : o + j - (l.take o).length = j := by simp; omega
  simp only [e]
theorem over_out {l : List UInt8} {o : Nat} {m : List UInt8} (h : o + m.length ≤ l.length) (j : Nat) (hj : j < l.length) (hd : j < o ∨ o + m.length ≤ j) : (over l o m)[j]'(by rw [over_length h]; exact hj) = l[j] := by
  simp only [over]
  rcases hd with hd | hd
  · rw [List.getElem_append_left (by simp; omega), List.getElem_append_left (by simp; omega)]
    simp
  · rw [List.getElem_append_right (by simp; omega)]
    simp only [List.getElem_drop]
    congr 1
    simp; omega
theorem getv_cast {l : List UInt8} {i j : Nat} (hi : i < l.length) (e : i = j) : l[i] = l[j]'(e ▸ hi) := by subst e; rfl

/-- 'copy(row[o:], s)' -/
theorem Row8.copy {g : Nat} {l : List UInt8} {W : World} (h : Row8 g l W) (ty : TypeId) (o dLen dCap : Nat) (s : ByteArray) (hle : s.size ≤ dLen) (hfit : o + s.size ≤ l.length) :
    ∃ W', (Builtin.copy_ #[72, 9] ty #[.slice (some ⟨g, o, none⟩) dLen dCap, .string s]).run Tryd.prog W = .ok (.int .i64 (s.size : Int)) W' ∧ Row8 g (over l o s.data.toList) W' ∧
      (∀ B a, B ≤ g → Below B a W → Below B a W') ∧ (∀ b, b < W.heap.size → b ≠ g → W'.heap[b]? = W.heap[b]?) := by
  have hsl : s.data.toList.length = s.size := by simp
  have hml : (s.data.toList.map fun x => Value.int .u8 (x.toNat : Int)).length = s.size := by rw [List.length_map, hsl]
  have hcell : ∀ j, j < s.size → W.cell? ⟨g, o + j, none⟩ = some (.int .u8 (l[o + j]!.toNat : Int)) := fun j hj => by
    rw [(h.2 (o + j) (by omega)).1, getElem!_pos l (o + j) (by omega)]
  have hr := run_copy_string (P := Tryd.prog) W 72 9 ty 5 g o dLen dCap s Tryd.underlying72 Tryd.sizeU8 hle
    (fun j hj => by rw [hcell j hj]; rfl) (fun j hj => (h.2 (o + j) (by omega)).2)
  refine ⟨_, hr, ⟨?_, fun j hj => ?_⟩, fun B a hB hb => below_setCells hB _ _ _ hb, fun b hb hne => World.heap_setCells_other W g o _ hb hne⟩
  · exact Nat.lt_of_lt_of_le h.1 (below_setCells (B := g) (Nat.le_refl g) _ _ _ (Below.refl g W)).size
  · rw [over_length (by rw [hsl]; exact hfit)] at hj
    refine ⟨?_, (World.frozen?_setCells g _ o W _).trans (h.2 j hj).2⟩
    by_cases hd : o ≤ j ∧ j < o + s.size
    · obtain ⟨k, rfl⟩ : ∃ k, j = o + k := ⟨j - o, by omega⟩
      have hk : k < s.size := by omega
      rw [World.cell?_setCells_in g _ o W (fun i hi => by rw [hcell i (by rw [← hml]; exact hi)]; rfl) k (by rw [hml]; exact hk)]
      rw [over_in (by rw [hsl]; exact hfit) k (by rw [hsl]; exact hk)]
      simp
    · rw [World.cell?_setCells_out g _ o W ⟨g, j, none⟩ (fun _ _ => by rw [hml]; show j < o ∨ o + s.size ≤ j; omega), (h.2 j hj).1]
      rw [over_out (by rw [hsl]; exact hfit) j hj (by rw [hsl]; omega)]
end Go.Proofs.YthfhbmiddillbagDoor
end
