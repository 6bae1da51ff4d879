/- Proved here: spec.RulesRight answers whether rules are right; all old memory stays (conditions: they can be read; an int's many). · Proved here: spec.TupleRight answers whether a tuple is right; all old memory stays (no conditions). -/
import Derived.Test.YtilajoafppplcaaRuleS
import Derived.Test.YtilajoafppplcaaAll6
import Derived.Test.YtilajoafppplcaaAll5
import Derived.Test.YtilajoafppplcaaAll11
section
namespace Go.Proofs.Ytilajoafppplcaa
open Go.ChangeShapes Go.WideShapes Go.ChangeAt Go.RowKit
set_option linter.unusedVariables false
set_option linter.unusedSimpArgs false

set_option maxHeartbeats 2000000 in
theorem specRules_any (a : Option Addr) (cap : Nat) (l : List Rl) (w : World) (hR : RowZ a (flatRule l) w) (hz : l.length ≤ 1048576) :
    Calls Try.prog 33 #[.slice a l.length cap] w fun e w' => e = .returned (.bool (rulesB l)) ∧ Below w.heap.size w w' := by
  have HR := hidS hR
  have hE : Hid (rulesB l = (decide (l.length ≤ 6) && allR l)) := rfl
  clear hR
  go_enter Try.func33, Try.ntmps33
  go_wp2
  go_loopw [3] (fun i wr => ∃ k : Nat, i = .int .i64 (k : Int) ∧ k ≤ l.length ∧ Hid (allR (l.take k) = true) ∧ Below w.heap.size w wr) (fun i _ => (l.length - (intOf i).toNat))
  case atStart => exact ⟨0, rfl, Nat.zero_le _, rfl, Below.refl _ _⟩
  case round =>
    obtain ⟨k, rfl, hk, hA, hb⟩ := hrel
    have HB := hidS hb
    clear hb
    by_cases hlt : k < l.length
    · have hlt' : (k : Int) < (l.length : Int) := by omega
      by_cases h6 : k ≤ 6
      · have h6' : (k : Int) ≤ 6 := by omega
        obtain ⟨b, o, rfl, hbl, c0, c1, c2, c3, c4, c5, c6⟩ := (HR.out.later HB.out).rule hlt
        have HT := hidS (fun W => specRR_any (l.getD k zeroRl) W)
        have hbad := hidS (fun q => allR_bad hlt q)
        have hnx := hidS (allR_take hlt)
        generalize l.getD k zeroRl = s at *
        go_wp2_with fail
        refine (HT.out _).mono ?_
        rintro _ w1 ⟨rfl, hb1⟩
        have HB1 := hidS (HB.out.trans (hb1.mono HB.out.size))
        clear hb1 HB c0 c1 c2 c3 c4 c5 c6
        cases hs : rightR s
        · have E : Hid (rulesB l = false) := hE.out.trans (by rw [hbad.out hs] <;> simp)
          clear hE hbad hnx
          go_wp2_with fail
          go_ret
          exact ⟨by rw [E.out]; rfl, HB1.out⟩
        · have hN : Hid (allR (l.take (k + 1)) = true) := hnx.out.trans (by rw [hA.out, hs] <;> rfl)
          clear hbad hnx hA
          go_wp2_with fail
          go_roundw
          case rel => exact ⟨k + 1, by simp, by omega, hN, HB1.out⟩
          case measure => simp [intOf]; omega
      · have h6' : ¬ (k : Int) ≤ 6 := by omega
        have hl6 : ¬ (l.length : Int) ≤ 6 := by omega
        have E : Hid (rulesB l = false) := hE.out.trans (by rw [show decide (l.length ≤ 6) = false by simp; omega] <;> simp)
        clear hE
        go_wp2_with fail
        go_ret
        exact ⟨by rw [E.out]; rfl, HB.out⟩
    · have hge : ¬ (k : Int) < (l.length : Int) := by omega
      have hA2 : allR l = true := by have := hA.out; rw [List.take_of_length_le (by omega)] at this; exact this
      by_cases hl6 : (l.length : Int) ≤ 6
      · have E : Hid (rulesB l = true) := hE.out.trans (by rw [hA2, show decide (l.length ≤ 6) = true by simp; omega] <;> rfl)
        clear hE hA hA2 hlt
        go_wp2_with fail
        go_ret
        exact ⟨by rw [E.out]; rfl, HB.out⟩
      · have E : Hid (rulesB l = false) := hE.out.trans (by rw [show decide (l.length ≤ 6) = false by simp; omega] <;> simp)
        clear hE hA hA2 hlt
        go_wp2_with fail
        go_ret
        exact ⟨by rw [E.out]; rfl, HB.out⟩
end Go.Proofs.Ytilajoafppplcaa
end

section
namespace Go.Proofs.Ytilajoafppplcaa
open Go.ChangeShapes Go.WideShapes Go.ChangeAt Go.RowKit
set_option linter.unusedVariables false

set_option maxHeartbeats 2000000 in
theorem specTRight_any (t : Tp) (w : World) :
    Calls Try.prog 35 #[.agg #[.int .i64 t.proto, .int .i64 t.src, .int .i64 t.sport, .int .i64 t.dst, .int .i64 t.dport, .int .i64 t.kind]] w fun e w' => e = .returned (.bool (rightT t)) ∧ Below w.heap.size w w' := by
  have HB := fun o => hidS ((Below.refl w.heap.size w).alloc (Nat.le_refl _) o)
  cases h1 : addrB t.src
  · have e : Hid (rightT t = false) := by unfold Hid rightT echoB; simp_all
    go_enter Try.func35, Try.ntmps35
    go_wp2_with (first | (go_at_call 83; refine (l02Addr_any _ _).mono ?_; rintro e w1 ⟨rfl, rfl⟩) | (go_at_call 88; refine (l02Word_any _ _).mono ?_; rintro e w1 ⟨rfl, rfl⟩))
    go_ret
    exact ⟨by rw [e.out]; rfl, (HB _).out⟩
  cases h2 : addrB t.dst
  · have e : Hid (rightT t = false) := by unfold Hid rightT echoB; simp_all
    go_enter Try.func35, Try.ntmps35
    go_wp2_with (first | (go_at_call 83; refine (l02Addr_any _ _).mono ?_; rintro e w1 ⟨rfl, rfl⟩) | (go_at_call 88; refine (l02Word_any _ _).mono ?_; rintro e w1 ⟨rfl, rfl⟩))
    go_ret
    exact ⟨by rw [e.out]; rfl, (HB _).out⟩
  cases h3 : wordB t.sport
  · have e : Hid (rightT t = false) := by unfold Hid rightT echoB; simp_all
    go_enter Try.func35, Try.ntmps35
    go_wp2_with (first | (go_at_call 83; refine (l02Addr_any _ _).mono ?_; rintro e w1 ⟨rfl, rfl⟩) | (go_at_call 88; refine (l02Word_any _ _).mono ?_; rintro e w1 ⟨rfl, rfl⟩))
    go_ret
    exact ⟨by rw [e.out]; rfl, (HB _).out⟩
  cases h4 : wordB t.dport
  · have e : Hid (rightT t = false) := by unfold Hid rightT echoB; simp_all
    go_enter Try.func35, Try.ntmps35
    go_wp2_with (first | (go_at_call 83; refine (l02Addr_any _ _).mono ?_; rintro e w1 ⟨rfl, rfl⟩) | (go_at_call 88; refine (l02Word_any _ _).mono ?_; rintro e w1 ⟨rfl, rfl⟩))
    go_ret
    exact ⟨by rw [e.out]; rfl, (HB _).out⟩
  by_cases p1 : t.proto = 1
  · have p1' : (t.proto == 1) = true := beq_iff_eq.2 p1
    by_cases k8 : t.kind = 8
    · have k8' : (t.kind == 8) = true := beq_iff_eq.2 k8
      by_cases hp : t.sport = t.dport
      · have hp' : (t.sport == t.dport) = true := beq_iff_eq.2 hp
        have e : Hid (rightT t = true) := by unfold Hid rightT echoB; simp_all
        go_enter Try.func35, Try.ntmps35
        go_wp2_with (first | (go_at_call 83; refine (l02Addr_any _ _).mono ?_; rintro e w1 ⟨rfl, rfl⟩) | (go_at_call 88; refine (l02Word_any _ _).mono ?_; rintro e w1 ⟨rfl, rfl⟩))
        go_ret
        exact ⟨by rw [e.out]; rfl, (HB _).out⟩
      · have hp' : (t.sport == t.dport) = false := beq_eq_false_iff_ne.2 hp
        have e : Hid (rightT t = false) := by unfold Hid rightT echoB; simp_all
        go_enter Try.func35, Try.ntmps35
        go_wp2_with (first | (go_at_call 83; refine (l02Addr_any _ _).mono ?_; rintro e w1 ⟨rfl, rfl⟩) | (go_at_call 88; refine (l02Word_any _ _).mono ?_; rintro e w1 ⟨rfl, rfl⟩))
        go_ret
        exact ⟨by rw [e.out]; rfl, (HB _).out⟩
    · have k8' : (t.kind == 8) = false := beq_eq_false_iff_ne.2 k8
      by_cases k0 : t.kind = 0
      · have k0' : (t.kind == 0) = true := beq_iff_eq.2 k0
        by_cases hp : t.sport = t.dport
        · have hp' : (t.sport == t.dport) = true := beq_iff_eq.2 hp
          have e : Hid (rightT t = true) := by unfold Hid rightT echoB; simp_all
          go_enter Try.func35, Try.ntmps35
          go_wp2_with (first | (go_at_call 83; refine (l02Addr_any _ _).mono ?_; rintro e w1 ⟨rfl, rfl⟩) | (go_at_call 88; refine (l02Word_any _ _).mono ?_; rintro e w1 ⟨rfl, rfl⟩))
          go_ret
          exact ⟨by rw [e.out]; rfl, (HB _).out⟩
        · have hp' : (t.sport == t.dport) = false := beq_eq_false_iff_ne.2 hp
          have e : Hid (rightT t = false) := by unfold Hid rightT echoB; simp_all
          go_enter Try.func35, Try.ntmps35
          go_wp2_with (first | (go_at_call 83; refine (l02Addr_any _ _).mono ?_; rintro e w1 ⟨rfl, rfl⟩) | (go_at_call 88; refine (l02Word_any _ _).mono ?_; rintro e w1 ⟨rfl, rfl⟩))
          go_ret
          exact ⟨by rw [e.out]; rfl, (HB _).out⟩
      · have k0' : (t.kind == 0) = false := beq_eq_false_iff_ne.2 k0
        have e : Hid (rightT t = false) := by unfold Hid rightT echoB; simp_all
        go_enter Try.func35, Try.ntmps35
        go_wp2_with (first | (go_at_call 83; refine (l02Addr_any _ _).mono ?_; rintro e w1 ⟨rfl, rfl⟩) | (go_at_call 88; refine (l02Word_any _ _).mono ?_; rintro e w1 ⟨rfl, rfl⟩))
        go_ret
        exact ⟨by rw [e.out]; rfl, (HB _).out⟩
  · have p1' : (t.proto == 1) = false := beq_eq_false_iff_ne.2 p1
    by_cases p6 : t.proto = 6
    · have p6' : (t.proto == 6) = true := beq_iff_eq.2 p6
      by_cases hk : t.kind = 0
      · have hk' : (t.kind == 0) = true := beq_iff_eq.2 hk
        have e : Hid (rightT t = true) := by unfold Hid rightT echoB; simp_all
        go_enter Try.func35, Try.ntmps35
        go_wp2_with (first | (go_at_call 83; refine (l02Addr_any _ _).mono ?_; rintro e w1 ⟨rfl, rfl⟩) | (go_at_call 88; refine (l02Word_any _ _).mono ?_; rintro e w1 ⟨rfl, rfl⟩))
        go_ret
        exact ⟨by rw [e.out]; rfl, (HB _).out⟩
      · have hk' : (t.kind == 0) = false := beq_eq_false_iff_ne.2 hk
        have e : Hid (rightT t = false) := by unfold Hid rightT echoB; simp_all
        go_enter Try.func35, Try.ntmps35
        go_wp2_with (first | (go_at_call 83; refine (l02Addr_any _ _).mono ?_; rintro e w1 ⟨rfl, rfl⟩) | (go_at_call 88; refine (l02Word_any _ _).mono ?_; rintro e w1 ⟨rfl, rfl⟩))
        go_ret
        exact ⟨by rw [e.out]; rfl, (HB _).out⟩
    · have p6' : (t.proto == 6) = false := beq_eq_false_iff_ne.2 p6
      by_cases p17 : t.proto = 17
      · have p17' : (t.proto == 17) = true := beq_iff_eq.2 p17
        by_cases hk : t.kind = 0
        · have hk' : (t.kind == 0) = true := beq_iff_eq.2 hk
          have e : Hid (rightT t = true) := by unfold Hid rightT echoB; simp_all
          go_enter Try.func35, Try.ntmps35
          go_wp2_with (first | (go_at_call 83; refine (l02Addr_any _ _).mono ?_; rintro e w1 ⟨rfl, rfl⟩) | (go_at_call 88; refine (l02Word_any _ _).mono ?_; rintro e w1 ⟨rfl, rfl⟩))
          go_ret
          exact ⟨by rw [e.out]; rfl, (HB _).out⟩
        · have hk' : (t.kind == 0) = false := beq_eq_false_iff_ne.2 hk
          have e : Hid (rightT t = false) := by unfold Hid rightT echoB; simp_all
          go_enter Try.func35, Try.ntmps35
          go_wp2_with (first | (go_at_call 83; refine (l02Addr_any _ _).mono ?_; rintro e w1 ⟨rfl, rfl⟩) | (go_at_call 88; refine (l02Word_any _ _).mono ?_; rintro e w1 ⟨rfl, rfl⟩))
          go_ret
          exact ⟨by rw [e.out]; rfl, (HB _).out⟩
      · have p17' : (t.proto == 17) = false := beq_eq_false_iff_ne.2 p17
        have e : Hid (rightT t = false) := by unfold Hid rightT echoB; simp_all
        go_enter Try.func35, Try.ntmps35
        go_wp2_with (first | (go_at_call 83; refine (l02Addr_any _ _).mono ?_; rintro e w1 ⟨rfl, rfl⟩) | (go_at_call 88; refine (l02Word_any _ _).mono ?_; rintro e w1 ⟨rfl, rfl⟩))
        go_ret
        exact ⟨by rw [e.out]; rfl, (HB _).out⟩
end Go.Proofs.Ytilajoafppplcaa
end
