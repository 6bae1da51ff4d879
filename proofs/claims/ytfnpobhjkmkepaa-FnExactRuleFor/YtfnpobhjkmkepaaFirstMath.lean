/- Proved here: nothing of a program: the first rule that holds, looked for one by one. -/
import Derived.Test.YtfnpobhjkmkepaaRuleMath
namespace Go.Proofs.Ytfnpobhjkmkepaa
set_option linter.unusedVariables false

theorem take_none {l : List Rl} {k : Nat} {K : Int} {t : Tp} (h : ∀ r ∈ l.take k, forR r K t = false) : firstR l K t = firstR (l.drop k) K t := by
  have := firstR_none (b := l.drop k) h
  rwa [List.take_append_drop] at this
theorem first_here {l : List Rl} {k : Nat} {K : Int} {t : Tp} (hk : k < l.length) (h : ∀ r ∈ l.take k, forR r K t = false) (hr : forR (l.getD k zeroRl) K t = true) : foundR l K t = l.getD k zeroRl ∧ hasR l K t = true := by
  have e := take_none h
  rw [List.drop_eq_getElem_cons hk] at e
  have hg : l.getD k zeroRl = l[k] := by simp [hk]
  rw [hg] at hr ⊢
  have e2 : firstR l K t = some l[k] := e.trans (if_pos hr)
  unfold foundR hasR
  rw [e2]
  exact ⟨rfl, rfl⟩
theorem first_end {l : List Rl} {K : Int} {t : Tp} (h : ∀ r ∈ l.take l.length, forR r K t = false) : foundR l K t = zeroRl ∧ hasR l K t = false := by
  have e := take_none h
  rw [List.drop_length] at e
  unfold foundR hasR
  rw [e]
  exact ⟨rfl, rfl⟩
theorem take_more {l : List Rl} {k : Nat} {K : Int} {t : Tp} (hk : k < l.length) (h : ∀ r ∈ l.take k, forR r K t = false) (hr : forR (l.getD k zeroRl) K t = false) : ∀ r ∈ l.take (k + 1), forR r K t = false := by
  intro r hm
  rw [List.take_succ_eq_append_getElem hk] at hm
  have hg : l.getD k zeroRl = l[k] := by simp [hk]
  rw [hg] at hr
  rcases List.mem_append.1 hm with q | q
  · exact h r q
  · simp at q; rw [q]; exact hr
theorem allR_get {l : List Rl} {k : Nat} (hk : k < l.length) (h : allR l = true) : rightR (l.getD k zeroRl) = true := allR_iff.1 h _ (by simp [hk])
/-- does a rule hold, its kind aside? -/
def isForB (r : Rl) (t : Tp) : Bool := (r.proto == 0 || r.proto == t.proto) && inNetB (namedA r.kind t) r.net r.bits
theorem for_is {r : Rl} {k : Int} {t : Tp} (hr : rightR r = true) (ht : rightT t = true) : forR r k t = (r.kind == k && isForB r t) := by
  unfold forR isForB
  cases h : (r.kind == k)
  · rfl
  · have e : r.kind = k := by simpa using h
    rw [e, inNet_right hr ht, Bool.and_assoc]
end Go.Proofs.Ytfnpobhjkmkepaa
