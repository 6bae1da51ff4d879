/- Proved here: spec.l04Of answers a packet's tuple; all old memory stays (no conditions). · Proved here: spec.l04Invert answers a right tuple turned round; all old memory stays (condition: it is right). · Proved here: nothing of a program: a right packet with a right tuple's ends is right, and its tuple is that one just if Proto and Kind are. -/
import Derived.Test.YtbhemimhmkgfiaaDoorAll7
import Derived.Test.YtbhemimhmkgfiaaDoorRightSpec
import Derived.Test.YtbhemimhmkgfiaaDoorL04Err
import Derived.Test.YtbhemimhmkgfiaaDoorAll5
import Derived.Test.YtbhemimhmkgfiaaDoorAll3
import Derived.Deep.Cut
section
namespace Go.Proofs.YtbhemimhmkgfiaaDoor
open Go.ChangeShapes Go.WideShapes Go.ChangeAt Go.RowKit
set_option linter.unusedVariables false

theorem l04Of_any (p : Pk) (w : World) :
    Calls Tryd.prog 15 #[.agg #[.int .i64 p.src, .int .i64 p.dst, .int .i64 p.proto, .int .i64 p.a, .int .i64 p.b, .int .i64 p.kind, .int .i64 p.flags, .int .i64 p.seq, .int .i64 p.ack, .string p.body]] w fun e w' => e = .returned (.agg #[.int .i64 (ofP p).proto, .int .i64 (ofP p).src, .int .i64 (ofP p).sport, .int .i64 (ofP p).dst, .int .i64 (ofP p).dport, .int .i64 (ofP p).kind]) ∧ Below w.heap.size w w' := by
  by_cases h1 : p.proto = 1
  · have h1' : (p.proto == 1) = true := beq_iff_eq.2 h1
    unfold ofP
    rw [if_pos h1]
    clear h1
    go_enter Tryd.func15, Tryd.ntmps15
    go_wp2
    go_returns
    exact ⟨rfl, by go_grown⟩
  · have h1' : (p.proto == 1) = false := beq_eq_false_iff_ne.2 h1
    unfold ofP
    rw [if_neg h1]
    clear h1
    go_enter Tryd.func15, Tryd.ntmps15
    go_wp2
    go_returns
    exact ⟨rfl, by go_grown⟩

end Go.Proofs.YtbhemimhmkgfiaaDoor
end

section
namespace Go.Proofs.YtbhemimhmkgfiaaDoor
open Go.ChangeShapes Go.WideShapes Go.ChangeAt Go.RowKit
set_option linter.unusedVariables false

theorem right_kind {t : Tp} (h : rightT t = true) (h1 : t.proto = 1) : t.kind = 8 ∨ t.kind = 0 := by
  unfold rightT echoB at h
  rw [if_pos h1] at h
  simp at h
  omega
theorem inv_ask {t : Tp} (h1 : t.proto = 1) (h8 : t.kind = 8) : invT t = ⟨t.proto, t.dst, t.dport, t.src, t.sport, 0⟩ := by unfold invT; rw [if_pos h1, h8]; rfl
theorem inv_reply {t : Tp} (h1 : t.proto = 1) (h0 : t.kind = 0) : invT t = ⟨t.proto, t.dst, t.dport, t.src, t.sport, 8⟩ := by unfold invT; rw [if_pos h1, h0]; rfl
theorem inv_other {t : Tp} (h1 : t.proto ≠ 1) : invT t = ⟨t.proto, t.dst, t.dport, t.src, t.sport, 0⟩ := by unfold invT; rw [if_neg h1]

set_option maxHeartbeats 1000000 in
theorem l04Invert_any (t : Tp) (w : World) (h : rightT t = true) :
    Calls Tryd.prog 18 #[.agg #[.int .i64 t.proto, .int .i64 t.src, .int .i64 t.sport, .int .i64 t.dst, .int .i64 t.dport, .int .i64 t.kind]] w fun e w' => e = .returned (.agg #[.int .i64 (invT t).proto, .int .i64 (invT t).src, .int .i64 (invT t).sport, .int .i64 (invT t).dst, .int .i64 (invT t).dport, .int .i64 (invT t).kind]) ∧ Below w.heap.size w w' := by
  by_cases h1 : t.proto = 1
  · have h1' : (t.proto == 1) = true := beq_iff_eq.2 h1
    rcases right_kind h h1 with h8 | h0
    · rw [inv_ask h1 h8]
      clear h h1
      obtain ⟨pr, s, sp, d, dp, k⟩ := t
      simp only at h8 h1' ⊢
      subst h8
      go_enter Tryd.func18, Tryd.ntmps18
      go_wp2
      go_returns
      exact ⟨rfl, by go_grown⟩
    · rw [inv_reply h1 h0]
      clear h h1
      obtain ⟨pr, s, sp, d, dp, k⟩ := t
      simp only at h0 h1' ⊢
      subst h0
      go_enter Tryd.func18, Tryd.ntmps18
      go_wp2
      go_returns
      exact ⟨rfl, by go_grown⟩
  · have h1' : (t.proto == 1) = false := beq_eq_false_iff_ne.2 h1
    rw [inv_other h1]
    clear h h1
    go_enter Tryd.func18, Tryd.ntmps18
    go_wp2
    go_returns
    exact ⟨rfl, by go_grown⟩

end Go.Proofs.YtbhemimhmkgfiaaDoor
end

section
namespace Go.Proofs.YtbhemimhmkgfiaaDoor
set_option linter.unusedVariables false

theorem errorB_with (p : Pk) (t : Tp) : errorB (withT p t) = errorB p := rfl
theorem with_right {p : Pk} {t : Tp} (hr : rightB p = true) (he : errorB p = false) (ht : rightT t = true) : rightB (withT p t) = true := by
  unfold rightT at ht
  unfold errorB at he
  unfold rightB tcpB udpB pingB at *
  simp only [withT]
  by_cases h6 : p.proto = 6
  · simp [h6] at hr he ⊢; simp at ht; grind
  · by_cases h17 : p.proto = 17
    · simp [h17] at hr he ⊢; simp at ht; grind
    · by_cases h1 : p.proto = 1
      · simp [h1] at hr he ⊢; simp at ht; grind
      · simp [h6, h17, h1] at hr
/-- the tuple of the packet with another tuple's ends -/
def given (p : Pk) (t : Tp) : Tp := ⟨p.proto, t.src, t.sport, t.dst, if p.proto = 1 then t.sport else t.dport, p.kind⟩
theorem ofAns_with {p : Pk} {t : Tp} (hr : rightB p = true) (he : errorB p = false) (ht : rightT t = true) : ofAns (withT p t) = given p t := by
  unfold ofAns
  rw [errorB_with, he, with_right hr he ht]
  unfold ofP withT given
  by_cases h1 : p.proto = 1 <;> simp [h1]
theorem given_yes {p : Pk} {t : Tp} (ht : rightT t = true) (hp : t.proto = p.proto) (hk : t.kind = p.kind) : given p t = t := by
  unfold given
  unfold rightT at ht
  obtain ⟨pr, s, sp, d, dp, k⟩ := t
  simp only at hp hk ht ⊢
  subst hp hk
  by_cases h1 : p.proto = 1
  · simp [h1] at ht ⊢; omega
  · simp [h1]
/-- what WithTuple answers -/
def withP (p : Pk) (t : Tp) : Pk := if withB p t = true then withT p t else zeroPk
def withC (p : Pk) (t : Tp) : Int := if withB p t = true then 0 else 1
end Go.Proofs.YtbhemimhmkgfiaaDoor
end
