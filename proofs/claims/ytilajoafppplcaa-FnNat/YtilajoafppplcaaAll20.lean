/- Proved here: spec.l04Invert answers a right tuple turned round; all old memory stays (condition: it is right). · Proved here: nothing of a program: a tuple looked for one by one. -/
import Derived.Test.YtilajoafppplcaaAll5
import Derived.Test.YtilajoafppplcaaAll3
import Derived.Test.YtilajoafppplcaaAll1
import Derived.Deep.Cut
import Derived.Test.YtilajoafppplcaaAll17
section
namespace Go.Proofs.Ytilajoafppplcaa
open Go.ChangeShapes Go.WideShapes Go.ChangeAt Go.RowKit
set_option linter.unusedVariables false

theorem right_kind {t : Tp} (h : rightT t = true) (h1 : t.proto = 1) : t.kind = 8 ∨ t.kind = 0 := by
  unfold rightT echoB at h
  rw [if_pos h1] at h
  simp at h
  omega
theorem inv_ask {t : Tp} (h1 : t.proto = 1) (h8 : t.kind = 8) : invT t = ⟨t.proto, t.dst, t.dport, t.src, t.sport, 0⟩ := by unfold invT; rw [if_pos h1, h8]; rfl
theorem inv_reply {t : Tp} (h1 : t.proto = 1) (h0 : t.kind = 0) : invT t = ⟨t.proto, t.dst, t.dport, t.src, t.sport, 8⟩ := by unfold invT; rw [if_pos h1, h0]; rfl
theorem inv_other {t : Tp} (h1 : t.proto ≠ 1) : invT t = ⟨t.proto, t.dst, t.dport, t.src, t.sport, 0⟩ := by unfold invT; rw [if_neg h1]

set_option maxHeartbeats 1000000 in
theorem l04Invert_any (t : Tp) (w : World) (h : rightT t = true) :
    Calls Try.prog 134 #[.agg #[.int .i64 t.proto, .int .i64 t.src, .int .i64 t.sport, .int .i64 t.dst, .int .i64 t.dport, .int .i64 t.kind]] w fun e w' => e = .returned (.agg #[.int .i64 (invT t).proto, .int .i64 (invT t).src, .int .i64 (invT t).sport, .int .i64 (invT t).dst, .int .i64 (invT t).dport, .int .i64 (invT t).kind]) ∧ Below w.heap.size w w' := by
  by_cases h1 : t.proto = 1
  · have h1' : (t.proto == 1) = true := beq_iff_eq.2 h1
    rcases right_kind h h1 with h8 | h0
    · rw [inv_ask h1 h8]
      clear h h1
      obtain ⟨pr, s, sp, d, dp, k⟩ := t
      simp only at h8 h1' ⊢
      subst h8
      go_enter Try.func134, Try.ntmps134
      go_wp2
      go_returns
      exact ⟨rfl, by go_grown⟩
    · rw [inv_reply h1 h0]
      clear h h1
      obtain ⟨pr, s, sp, d, dp, k⟩ := t
      simp only at h0 h1' ⊢
      subst h0
      go_enter Try.func134, Try.ntmps134
      go_wp2
      go_returns
      exact ⟨rfl, by go_grown⟩
  · have h1' : (t.proto == 1) = false := beq_eq_false_iff_ne.2 h1
    rw [inv_other h1]
    clear h h1
    go_enter Try.func134, Try.ntmps134
    go_wp2
    go_returns
    exact ⟨rfl, by go_grown⟩

end Go.Proofs.Ytilajoafppplcaa
end

section
namespace Go.Proofs.Ytilajoafppplcaa
set_option linter.unusedVariables false

theorem sameT_comm (a b : Tp) : sameT a b = sameT b a := by
  rw [Bool.eq_iff_iff, sameT_iff, sameT_iff]
  exact ⟨Eq.symm, Eq.symm⟩
theorem hasT_app : ∀ (a b : List Tp) (t : Tp), hasT (a ++ b) t = (hasT a t || hasT b t)
  | [], b, t => by simp [hasT]
  | u :: a, b, t => by simp [hasT, hasT_app a b t, Bool.or_assoc]
theorem hasT_take {l : List Tp} {k : Nat} {t : Tp} (h : k < l.length) : hasT (l.take (k + 1)) t = (hasT (l.take k) t || sameT t (l.getD k zeroTp)) := by
  rw [List.take_succ_eq_append_getElem h, hasT_app]
  simp [hasT, h]
theorem hasT_here {l : List Tp} {k : Nat} {t : Tp} (h : k < l.length) (hs : sameT t (l.getD k zeroTp) = true) : hasT l t = true := by
  rw [hasT_iff, sameT_iff.1 hs]
  simp [h]
end Go.Proofs.Ytilajoafppplcaa
end
