/- Proved here: nothing of a program: a right packet with a right tuple's ends is right, and its tuple is that one just if Proto and Kind are. · Proved here: nothing of a program: a right tuple turned round is right, and twice itself; a right packet's tuple is right; a packet that is given another tuple has it, and is given its own back. -/
import Derived.Test.YtbhemimhmkgfiaaAll6
section
namespace Go.Proofs.Ytbhemimhmkgfiaa
set_option linter.unusedVariables false

theorem errorB_with (p : Pk) (t : Tp) : errorB (withT p t) = errorB p := rfl
theorem with_right {p : Pk} {t : Tp} (hr : rightB p = true) (he : errorB p = false) (ht : rightT t = true) : rightB (withT p t) = true := by
  unfold rightT at ht
  unfold errorB at he
  unfold rightB tcpB udpB pingB at *
  simp only [withT]
  by_cases h6 : p.proto = 6
  · simp [h6] at hr he ⊢; simp at ht; grind
  · by_cases h17 : p.proto = 17
    · simp [h17] at hr he ⊢; simp at ht; grind
    · by_cases h1 : p.proto = 1
      · simp [h1] at hr he ⊢; simp at ht; grind
      · simp [h6, h17, h1] at hr
/-- the tuple of the packet with another tuple's ends -/
def given (p : Pk) (t : Tp) : Tp := ⟨p.proto, t.src, t.sport, t.dst, if p.proto = 1 then t.sport else t.dport, p.kind⟩
theorem ofAns_with {p : Pk} {t : Tp} (hr : rightB p = true) (he : errorB p = false) (ht : rightT t = true) : ofAns (withT p t) = given p t := by
  unfold ofAns
  rw [errorB_with, he, with_right hr he ht]
  unfold ofP withT given
  by_cases h1 : p.proto = 1 <;> simp [h1]
theorem given_yes {p : Pk} {t : Tp} (ht : rightT t = true) (hp : t.proto = p.proto) (hk : t.kind = p.kind) : given p t = t := by
  unfold given
  unfold rightT at ht
  obtain ⟨pr, s, sp, d, dp, k⟩ := t
  simp only at hp hk ht ⊢
  subst hp hk
  by_cases h1 : p.proto = 1
  · simp [h1] at ht ⊢; omega
  · simp [h1]
/-- what WithTuple answers -/
def withP (p : Pk) (t : Tp) : Pk := if withB p t = true then withT p t else zeroPk
def withC (p : Pk) (t : Tp) : Int := if withB p t = true then 0 else 1
end Go.Proofs.Ytbhemimhmkgfiaa
end

section
namespace Go.Proofs.Ytbhemimhmkgfiaa
open Go.ChangeShapes Go.WideShapes Go.ChangeAt Go.RowKit
set_option linter.unusedVariables false

theorem tp_ext {a b : Tp} (h1 : a.proto = b.proto) (h2 : a.src = b.src) (h3 : a.sport = b.sport) (h4 : a.dst = b.dst) (h5 : a.dport = b.dport) (h6 : a.kind = b.kind) : a = b := by
  cases a; cases b; simp_all
theorem inv_right {t : Tp} (h : rightT t = true) : rightT (invT t) = true := by
  unfold rightT echoB at *
  unfold invT
  by_cases h1 : t.proto = 1
  · simp [h1] at h ⊢; grind
  · simp [h1] at h ⊢; grind
theorem inv_twice {t : Tp} (h : rightT t = true) : invT (invT t) = t := by
  unfold rightT echoB at h
  obtain ⟨pr, s, sp, d, dp, k⟩ := t
  unfold invT
  by_cases h1 : pr = 1
  · simp [h1] at h ⊢; omega
  · simp [h1] at h ⊢; omega
theorem invAns_twice {t : Tp} (h : rightT t = true) : invAns (invAns t) = t := by
  unfold invAns
  rw [if_pos h, if_pos (inv_right h), inv_twice h]
theorem invAns_right {t : Tp} (h : rightT t = true) : rightT (invAns t) = true := by
  unfold invAns
  rw [if_pos h]; exact inv_right h
theorem of_right {p : Pk} (hr : rightB p = true) (he : errorB p = false) : rightT (ofP p) = true := by
  unfold rightT echoB ofP
  unfold errorB at he
  unfold rightB tcpB udpB pingB at hr
  by_cases h6 : p.proto = 6
  · simp [h6] at hr he ⊢; grind
  · by_cases h17 : p.proto = 17
    · simp [h17] at hr he ⊢; grind
    · by_cases h1 : p.proto = 1
      · simp [h1] at hr he ⊢; grind
      · simp [h6, h17, h1] at hr
theorem with_parts {p : Pk} {t : Tp} (h : withB p t = true) : rightB p = true ∧ errorB p = false ∧ rightT t = true ∧ t.proto = p.proto ∧ t.kind = p.kind := by
  unfold withB at h
  simp only [Bool.and_eq_true, Bool.not_eq_true', decide_eq_true_eq] at h
  exact ⟨h.1.1.1.1, h.1.1.1.2, h.1.1.2, h.1.2, h.2⟩
theorem with_has {p : Pk} {t : Tp} (h : withB p t = true) : ofAns (withT p t) = t := by
  obtain ⟨hr, he, ht, hp, hk⟩ := with_parts h
  rw [ofAns_with hr he ht, given_yes ht hp hk]
theorem with_back {p : Pk} {t : Tp} (h : withB p t = true) : withB (withT p t) (ofAns p) = true ∧ withT (withT p t) (ofAns p) = p := by
  obtain ⟨hr, he, ht, hp, hk⟩ := with_parts h
  have e : ofAns p = ofP p := by unfold ofAns; rw [hr, he]; rfl
  rw [e]
  constructor
  · unfold withB
    rw [with_right hr he ht, errorB_with, he, of_right hr he]
    simp [ofP, withT]
  · obtain ⟨s, d, pr, a, b, k, fl, sq, ac, bo⟩ := p
    simp only [withT, ofP]
    by_cases h1 : pr = 1 <;> simp [h1]
end Go.Proofs.Ytbhemimhmkgfiaa
end
