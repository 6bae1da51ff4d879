/- Proved here: spec.TupleRight answers whether a tuple is right; all old memory stays (no conditions). -/
import Derived.Test.YtpcflfhblomcoaaAll4
import Derived.Test.YtpcflfhblomcoaaAll28
namespace Go.Proofs.Ytpcflfhblomcoaa
open Go.ChangeShapes Go.WideShapes Go.ChangeAt Go.RowKit
set_option linter.unusedVariables false

set_option maxHeartbeats 2000000 in
theorem specTRight_any (t : Tp) (w : World) :
    Calls Try.prog 36 #[.agg #[.int .i64 t.proto, .int .i64 t.src, .int .i64 t.sport, .int .i64 t.dst, .int .i64 t.dport, .int .i64 t.kind]] w fun e w' => e = .returned (.bool (rightT t)) ∧ Below w.heap.size w w' := by
  have HB := fun o => hidS ((Below.refl w.heap.size w).alloc (Nat.le_refl _) o)
  cases h1 : addrB t.src
  · have e : Hid (rightT t = false) := by unfold Hid rightT echoB; simp_all
    go_enter Try.func36, Try.ntmps36
    go_wp2_with (first | (go_at_call 92; refine (l02Addr_any _ _).mono ?_; rintro e w1 ⟨rfl, rfl⟩) | (go_at_call 97; refine (l02Word_any _ _).mono ?_; rintro e w1 ⟨rfl, rfl⟩))
    go_ret
    exact ⟨by rw [e.out]; rfl, (HB _).out⟩
  cases h2 : addrB t.dst
  · have e : Hid (rightT t = false) := by unfold Hid rightT echoB; simp_all
    go_enter Try.func36, Try.ntmps36
    go_wp2_with (first | (go_at_call 92; refine (l02Addr_any _ _).mono ?_; rintro e w1 ⟨rfl, rfl⟩) | (go_at_call 97; refine (l02Word_any _ _).mono ?_; rintro e w1 ⟨rfl, rfl⟩))
    go_ret
    exact ⟨by rw [e.out]; rfl, (HB _).out⟩
  cases h3 : wordB t.sport
  · have e : Hid (rightT t = false) := by unfold Hid rightT echoB; simp_all
    go_enter Try.func36, Try.ntmps36
    go_wp2_with (first | (go_at_call 92; refine (l02Addr_any _ _).mono ?_; rintro e w1 ⟨rfl, rfl⟩) | (go_at_call 97; refine (l02Word_any _ _).mono ?_; rintro e w1 ⟨rfl, rfl⟩))
    go_ret
    exact ⟨by rw [e.out]; rfl, (HB _).out⟩
  cases h4 : wordB t.dport
  · have e : Hid (rightT t = false) := by unfold Hid rightT echoB; simp_all
    go_enter Try.func36, Try.ntmps36
    go_wp2_with (first | (go_at_call 92; refine (l02Addr_any _ _).mono ?_; rintro e w1 ⟨rfl, rfl⟩) | (go_at_call 97; refine (l02Word_any _ _).mono ?_; rintro e w1 ⟨rfl, rfl⟩))
    go_ret
    exact ⟨by rw [e.out]; rfl, (HB _).out⟩
  by_cases p1 : t.proto = 1
  · have p1' : (t.proto == 1) = true := beq_iff_eq.2 p1
    by_cases k8 : t.kind = 8
    · have k8' : (t.kind == 8) = true := beq_iff_eq.2 k8
      by_cases hp : t.sport = t.dport
      · have hp' : (t.sport == t.dport) = true := beq_iff_eq.2 hp
        have e : Hid (rightT t = true) := by unfold Hid rightT echoB; simp_all
        go_enter Try.func36, Try.ntmps36
        go_wp2_with (first | (go_at_call 92; refine (l02Addr_any _ _).mono ?_; rintro e w1 ⟨rfl, rfl⟩) | (go_at_call 97; refine (l02Word_any _ _).mono ?_; rintro e w1 ⟨rfl, rfl⟩))
        go_ret
        exact ⟨by rw [e.out]; rfl, (HB _).out⟩
      · have hp' : (t.sport == t.dport) = false := beq_eq_false_iff_ne.2 hp
        have e : Hid (rightT t = false) := by unfold Hid rightT echoB; simp_all
        go_enter Try.func36, Try.ntmps36
        go_wp2_with (first | (go_at_call 92; refine (l02Addr_any _ _).mono ?_; rintro e w1 ⟨rfl, rfl⟩) | (go_at_call 97; refine (l02Word_any _ _).mono ?_; rintro e w1 ⟨rfl, rfl⟩))
        go_ret
        exact ⟨by rw [e.out]; rfl, (HB _).out⟩
    · have k8' : (t.kind == 8) = false := beq_eq_false_iff_ne.2 k8
      by_cases k0 : t.kind = 0
      · have k0' : (t.kind == 0) = true := beq_iff_eq.2 k0
        by_cases hp : t.sport = t.dport
        · have hp' : (t.sport == t.dport) = true := beq_iff_eq.2 hp
          have e : Hid (rightT t = true) := by unfold Hid rightT echoB; simp_all
          go_enter Try.func36, Try.ntmps36
          go_wp2_with (first | (go_at_call 92; refine (l02Addr_any _ _).mono ?_; rintro e w1 ⟨rfl, rfl⟩) | (go_at_call 97; refine (l02Word_any _ _).mono ?_; rintro e w1 ⟨rfl, rfl⟩))
          go_ret
          exact ⟨by rw [e.out]; rfl, (HB _).out⟩
        · have hp' : (t.sport == t.dport) = false := beq_eq_false_iff_ne.2 hp
          have e : Hid (rightT t = false) := by unfold Hid rightT echoB; simp_all
          go_enter Try.func36, Try.ntmps36
          go_wp2_with (first | (go_at_call 92; refine (l02Addr_any _ _).mono ?_; rintro e w1 ⟨rfl, rfl⟩) | (go_at_call 97; refine (l02Word_any _ _).mono ?_; rintro e w1 ⟨rfl, rfl⟩))
          go_ret
          exact ⟨by rw [e.out]; rfl, (HB _).out⟩
      · have k0' : (t.kind == 0) = false := beq_eq_false_iff_ne.2 k0
        have e : Hid (rightT t = false) := by unfold Hid rightT echoB; simp_all
        go_enter Try.func36, Try.ntmps36
        go_wp2_with (first | (go_at_call 92; refine (l02Addr_any _ _).mono ?_; rintro e w1 ⟨rfl, rfl⟩) | (go_at_call 97; refine (l02Word_any _ _).mono ?_; rintro e w1 ⟨rfl, rfl⟩))
        go_ret
        exact ⟨by rw [e.out]; rfl, (HB _).out⟩
  · have p1' : (t.proto == 1) = false := beq_eq_false_iff_ne.2 p1
    by_cases p6 : t.proto = 6
    · have p6' : (t.proto == 6) = true := beq_iff_eq.2 p6
      by_cases hk : t.kind = 0
      · have hk' : (t.kind == 0) = true := beq_iff_eq.2 hk
        have e : Hid (rightT t = true) := by unfold Hid rightT echoB; simp_all
        go_enter Try.func36, Try.ntmps36
        go_wp2_with (first | (go_at_call 92; refine (l02Addr_any _ _).mono ?_; rintro e w1 ⟨rfl, rfl⟩) | (go_at_call 97; refine (l02Word_any _ _).mono ?_; rintro e w1 ⟨rfl, rfl⟩))
        go_ret
        exact ⟨by rw [e.out]; rfl, (HB _).out⟩
      · have hk' : (t.kind == 0) = false := beq_eq_false_iff_ne.2 hk
        have e : Hid (rightT t = false) := by unfold Hid rightT echoB; simp_all
        go_enter Try.func36, Try.ntmps36
        go_wp2_with (first | (go_at_call 92; refine (l02Addr_any _ _).mono ?_; rintro e w1 ⟨rfl, rfl⟩) | (go_at_call 97; refine (l02Word_any _ _).mono ?_; rintro e w1 ⟨rfl, rfl⟩))
        go_ret
        exact ⟨by rw [e.out]; rfl, (HB _).out⟩
    · have p6' : (t.proto == 6) = false := beq_eq_false_iff_ne.2 p6
      by_cases p17 : t.proto = 17
      · have p17' : (t.proto == 17) = true := beq_iff_eq.2 p17
        by_cases hk : t.kind = 0
        · have hk' : (t.kind == 0) = true := beq_iff_eq.2 hk
          have e : Hid (rightT t = true) := by unfold Hid rightT echoB; simp_all
          go_enter Try.func36, Try.ntmps36
          go_wp2_with (first | (go_at_call 92; refine (l02Addr_any _ _).mono ?_; rintro e w1 ⟨rfl, rfl⟩) | (go_at_call 97; refine (l02Word_any _ _).mono ?_; rintro e w1 ⟨rfl, rfl⟩))
          go_ret
          exact ⟨by rw [e.out]; rfl, (HB _).out⟩
        · have hk' : (t.kind == 0) = false := beq_eq_false_iff_ne.2 hk
          have e : Hid (rightT t = false) := by unfold Hid rightT echoB; simp_all
          go_enter Try.func36, Try.ntmps36
          go_wp2_with (first | (go_at_call 92; refine (l02Addr_any _ _).mono ?_; rintro e w1 ⟨rfl, rfl⟩) | (go_at_call 97; refine (l02Word_any _ _).mono ?_; rintro e w1 ⟨rfl, rfl⟩))
          go_ret
          exact ⟨by rw [e.out]; rfl, (HB _).out⟩
      · have p17' : (t.proto == 17) = false := beq_eq_false_iff_ne.2 p17
        have e : Hid (rightT t = false) := by unfold Hid rightT echoB; simp_all
        go_enter Try.func36, Try.ntmps36
        go_wp2_with (first | (go_at_call 92; refine (l02Addr_any _ _).mono ?_; rintro e w1 ⟨rfl, rfl⟩) | (go_at_call 97; refine (l02Word_any _ _).mono ?_; rintro e w1 ⟨rfl, rfl⟩))
        go_ret
        exact ⟨by rw [e.out]; rfl, (HB _).out⟩
end Go.Proofs.Ytpcflfhblomcoaa
