/- Proved here: nothing of a program: a right packet with a right tuple's ends is right, and its tuple is that one just if Proto and Kind are. -/
import Derived.Test.YtokjhfgbnpdfnahDoorTupMath
namespace Go.Proofs.YtokjhfgbnpdfnahDoor
set_option linter.unusedVariables false

theorem errorB_with (p : Pk) (t : Tp) : errorB (withT p t) = errorB p := rfl
theorem with_right {p : Pk} {t : Tp} (hr : rightB p = true) (he : errorB p = false) (ht : rightT t = true) : rightB (withT p t) = true := by
  unfold rightT at ht
  unfold errorB at he
  unfold rightB tcpB udpB pingB at *
  simp only [withT]
  by_cases h6 : p.proto = 6
  · simp [h6] at hr he ⊢; simp at ht; grind
  · by_cases h17 : p.proto = 17
    · simp [h17] at hr he ⊢; simp at ht; grind
    · by_cases h1 : p.proto = 1
      · simp [h1] at hr he ⊢; simp at ht; grind
      · simp [h6, h17, h1] at hr
/-- the tuple of the packet with another tuple's ends -/
def given (p : Pk) (t : Tp) : Tp := ⟨p.proto, t.src, t.sport, t.dst, if p.proto = 1 then t.sport else t.dport, p.kind⟩
theorem ofAns_with {p : Pk} {t : Tp} (hr : rightB p = true) (he : errorB p = false) (ht : rightT t = true) : ofAns (withT p t) = given p t := by
  unfold ofAns
  rw [errorB_with, he, with_right hr he ht]
  unfold ofP withT given
  by_cases h1 : p.proto = 1 <;> simp [h1]
theorem given_yes {p : Pk} {t : Tp} (ht : rightT t = true) (hp : t.proto = p.proto) (hk : t.kind = p.kind) : given p t = t := by
  unfold given
  unfold rightT at ht
  obtain ⟨pr, s, sp, d, dp, k⟩ := t
  simp only at hp hk ht ⊢
  subst hp hk
  by_cases h1 : p.proto = 1
  · simp [h1] at ht ⊢; omega
  · simp [h1]
/-- what WithTuple answers -/
def withP (p : Pk) (t : Tp) : Pk := if withB p t = true then withT p t else zeroPk
def withC (p : Pk) (t : Tp) : Int := if withB p t = true then 0 else 1
end Go.Proofs.YtokjhfgbnpdfnahDoor
