/- Proved here: spec.l04Of answers a packet's tuple; all old memory stays (no conditions). · Proved here: spec.l04Invert answers a right tuple turned round; all old memory stays (condition: it is right). -/
import Derived.Test.YtbhemimhmkgfiaaAll6
import Derived.Test.YtbhemimhmkgfiaaRightSpec
import Derived.Test.YtbhemimhmkgfiaaL04Err
import Derived.Test.YtbhemimhmkgfiaaAll5
import Derived.Test.YtbhemimhmkgfiaaAll3
import Derived.Deep.Cut
section
namespace Go.Proofs.Ytbhemimhmkgfiaa
open Go.ChangeShapes Go.WideShapes Go.ChangeAt Go.RowKit
set_option linter.unusedVariables false

theorem l04Of_any (p : Pk) (w : World) :
    Calls Try.prog 34 #[.agg #[.int .i64 p.src, .int .i64 p.dst, .int .i64 p.proto, .int .i64 p.a, .int .i64 p.b, .int .i64 p.kind, .int .i64 p.flags, .int .i64 p.seq, .int .i64 p.ack, .string p.body]] w fun e w' => e = .returned (.agg #[.int .i64 (ofP p).proto, .int .i64 (ofP p).src, .int .i64 (ofP p).sport, .int .i64 (ofP p).dst, .int .i64 (ofP p).dport, .int .i64 (ofP p).kind]) ∧ Below w.heap.size w w' := by
  by_cases h1 : p.proto = 1
  · have h1' : (p.proto == 1) = true := beq_iff_eq.2 h1
    unfold ofP
    rw [if_pos h1]
    clear h1
    go_enter Try.func34, Try.ntmps34
    go_wp2
    go_returns
    exact ⟨rfl, by go_grown⟩
  · have h1' : (p.proto == 1) = false := beq_eq_false_iff_ne.2 h1
    unfold ofP
    rw [if_neg h1]
    clear h1
    go_enter Try.func34, Try.ntmps34
    go_wp2
    go_returns
    exact ⟨rfl, by go_grown⟩

end Go.Proofs.Ytbhemimhmkgfiaa
end

section
namespace Go.Proofs.Ytbhemimhmkgfiaa
open Go.ChangeShapes Go.WideShapes Go.ChangeAt Go.RowKit
set_option linter.unusedVariables false

theorem right_kind {t : Tp} (h : rightT t = true) (h1 : t.proto = 1) : t.kind = 8 ∨ t.kind = 0 := by
  unfold rightT echoB at h
  rw [if_pos h1] at h
  simp at h
  omega
theorem inv_ask {t : Tp} (h1 : t.proto = 1) (h8 : t.kind = 8) : invT t = ⟨t.proto, t.dst, t.dport, t.src, t.sport, 0⟩ := by unfold invT; rw [if_pos h1, h8]; rfl
theorem inv_reply {t : Tp} (h1 : t.proto = 1) (h0 : t.kind = 0) : invT t = ⟨t.proto, t.dst, t.dport, t.src, t.sport, 8⟩ := by unfold invT; rw [if_pos h1, h0]; rfl
theorem inv_other {t : Tp} (h1 : t.proto ≠ 1) : invT t = ⟨t.proto, t.dst, t.dport, t.src, t.sport, 0⟩ := by unfold invT; rw [if_neg h1]

set_option maxHeartbeats 1000000 in
theorem l04Invert_any (t : Tp) (w : World) (h : rightT t = true) :
    Calls Try.prog 44 #[.agg #[.int .i64 t.proto, .int .i64 t.src, .int .i64 t.sport, .int .i64 t.dst, .int .i64 t.dport, .int .i64 t.kind]] w fun e w' => e = .returned (.agg #[.int .i64 (invT t).proto, .int .i64 (invT t).src, .int .i64 (invT t).sport, .int .i64 (invT t).dst, .int .i64 (invT t).dport, .int .i64 (invT t).kind]) ∧ Below w.heap.size w w' := by
  by_cases h1 : t.proto = 1
  · have h1' : (t.proto == 1) = true := beq_iff_eq.2 h1
    rcases right_kind h h1 with h8 | h0
    · rw [inv_ask h1 h8]
      clear h h1
      obtain ⟨pr, s, sp, d, dp, k⟩ := t
      simp only at h8 h1' ⊢
      subst h8
      go_enter Try.func44, Try.ntmps44
      go_wp2
      go_returns
      exact ⟨rfl, by go_grown⟩
    · rw [inv_reply h1 h0]
      clear h h1
      obtain ⟨pr, s, sp, d, dp, k⟩ := t
      simp only at h0 h1' ⊢
      subst h0
      go_enter Try.func44, Try.ntmps44
      go_wp2
      go_returns
      exact ⟨rfl, by go_grown⟩
  · have h1' : (t.proto == 1) = false := beq_eq_false_iff_ne.2 h1
    rw [inv_other h1]
    clear h h1
    go_enter Try.func44, Try.ntmps44
    go_wp2
    go_returns
    exact ⟨rfl, by go_grown⟩

end Go.Proofs.Ytbhemimhmkgfiaa
end
