/- Proved here: spec.l04With answers a packet with a tuple's ends; all old memory stays (no conditions). · Proved here: nothing of a program: a right tuple turned round is right, and twice itself; a right packet's tuple is right; a packet that is given another tuple has it, and is given its own back. -/
import Derived.Test.YtbhemimhmkgfiaaDoorAll21
import Derived.Test.YtbhemimhmkgfiaaDoorTRightSpec
import Derived.Test.YtbhemimhmkgfiaaDoorRightSpec
import Derived.Test.YtbhemimhmkgfiaaDoorL04Err
import Derived.Test.YtbhemimhmkgfiaaDoorAll5
import Derived.Deep.Cut
section
namespace Go.Proofs.YtbhemimhmkgfiaaDoor
open Go.ChangeShapes Go.WideShapes Go.ChangeAt Go.RowKit
set_option linter.unusedVariables false
set_option maxRecDepth 100000

theorem withP_no {p : Pk} {t : Tp} (h : withB p t = false) : withP p t = zeroPk := if_neg (by rw [h]; simp)
theorem withC_no {p : Pk} {t : Tp} (h : withB p t = false) : withC p t = 1 := if_neg (by rw [h]; simp)
theorem withP_yes {p : Pk} {t : Tp} (h : withB p t = true) : withP p t = withT p t := if_pos h
theorem withC_yes {p : Pk} {t : Tp} (h : withB p t = true) : withC p t = 0 := if_pos h

set_option maxHeartbeats 1000000 in
theorem l04With_any (p : Pk) (t : Tp) (w : World) :
    Calls Tryd.prog 17 #[.agg #[.int .i64 p.src, .int .i64 p.dst, .int .i64 p.proto, .int .i64 p.a, .int .i64 p.b, .int .i64 p.kind, .int .i64 p.flags, .int .i64 p.seq, .int .i64 p.ack, .string p.body], .agg #[.int .i64 t.proto, .int .i64 t.src, .int .i64 t.sport, .int .i64 t.dst, .int .i64 t.dport, .int .i64 t.kind]] w fun e w' => e = .returned (.agg #[.int .i64 (withT p t).src, .int .i64 (withT p t).dst, .int .i64 (withT p t).proto, .int .i64 (withT p t).a, .int .i64 (withT p t).b, .int .i64 (withT p t).kind, .int .i64 (withT p t).flags, .int .i64 (withT p t).seq, .int .i64 (withT p t).ack, .string (withT p t).body]) ∧ Below w.heap.size w w' := by
  unfold withT
  by_cases h1 : p.proto = 1
  · have h1' : (p.proto == 1) = true := beq_iff_eq.2 h1
    have h1n : (p.proto != 1) = false := by rw [bne, h1']; rfl
    rw [if_pos h1]
    clear h1
    go_enter Tryd.func17, Tryd.ntmps17
    go_wp2
    go_returns
    exact ⟨rfl, by go_grown⟩
  · have h1' : (p.proto == 1) = false := beq_eq_false_iff_ne.2 h1
    have h1n : (p.proto != 1) = true := by rw [bne, h1']; rfl
    rw [if_neg h1]
    clear h1
    go_enter Tryd.func17, Tryd.ntmps17
    go_wp2
    go_returns
    exact ⟨rfl, by go_grown⟩

end Go.Proofs.YtbhemimhmkgfiaaDoor
end

section
namespace Go.Proofs.YtbhemimhmkgfiaaDoor
open Go.ChangeShapes Go.WideShapes Go.ChangeAt Go.RowKit
set_option linter.unusedVariables false

theorem tp_ext {a b : Tp} (h1 : a.proto = b.proto) (h2 : a.src = b.src) (h3 : a.sport = b.sport) (h4 : a.dst = b.dst) (h5 : a.dport = b.dport) (h6 : a.kind = b.kind) : a = b := by
  cases a; cases b; simp_all
theorem inv_right {t : Tp} (h : rightT t = true) : rightT (invT t) = true := by
  unfold rightT echoB at *
  unfold invT
  by_cases h1 : t.proto = 1
  · simp [h1] at h ⊢; grind
  · simp [h1] at h ⊢; grind
theorem inv_twice {t : Tp} (h : rightT t = true) : invT (invT t) = t := by
  unfold rightT echoB at h
  obtain ⟨pr, s, sp, d, dp, k⟩ := t
  unfold invT
  by_cases h1 : pr = 1
  · simp [h1] at h ⊢; omega
  · simp [h1] at h ⊢; omega
theorem invAns_twice {t : Tp} (h : rightT t = true) : invAns (invAns t) = t := by
  unfold invAns
  rw [if_pos h, if_pos (inv_right h), inv_twice h]
theorem invAns_right {t : Tp} (h : rightT t = true) : rightT (invAns t) = true := by
  unfold invAns
  rw [if_pos h]; exact inv_right h
theorem of_right {p : Pk} (hr : rightB p = true) (he : errorB p = false) : rightT (ofP p) = true := by
  unfold rightT echoB ofP
  unfold errorB at he
  unfold rightB tcpB udpB pingB at hr
  by_cases h6 : p.proto = 6
  · simp [h6] at hr he ⊢; grind
  · by_cases h17 : p.proto = 17
    · simp [h17] at hr he ⊢; grind
    · by_cases h1 : p.proto = 1
      · simp [h1] at hr he ⊢; grind
      · simp [h6, h17, h1] at hr
theorem with_parts {p : Pk} {t : Tp} (h : withB p t = true) : rightB p = true ∧ errorB p = false ∧ rightT t = true ∧ t.proto = p.proto ∧ t.kind = p.kind := by
  unfold withB at h
  simp only [Bool.and_eq_true, Bool.not_eq_true', decide_eq_true_eq] at h
  exact ⟨h.1.1.1.1, h.1.1.1.2, h.1.1.2, h.1.2, h.2⟩
theorem with_has {p : Pk} {t : Tp} (h : withB p t = true) : ofAns (withT p t) = t := by
  obtain ⟨hr, he, ht, hp, hk⟩ := with_parts h
  rw [ofAns_with hr he ht, given_yes ht hp hk]
theorem with_back {p : Pk} {t : Tp} (h : withB p t = true) : withB (withT p t) (ofAns p) = true ∧ withT (withT p t) (ofAns p) = p := by
  obtain ⟨hr, he, ht, hp, hk⟩ := with_parts h
  have e : ofAns p = ofP p := by unfold ofAns; rw [hr, he]; rfl
  rw [e]
  constructor
  · unfold withB
    rw [with_right hr he ht, errorB_with, he, of_right hr he]
    simp [ofP, withT]
  · obtain ⟨s, d, pr, a, b, k, fl, sq, ac, bo⟩ := p
    simp only [withT, ofP]
    by_cases h1 : pr = 1 <;> simp [h1]
end Go.Proofs.YtbhemimhmkgfiaaDoor
end
