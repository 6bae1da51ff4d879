/- Proved here: nothing of a program: what impl's side of a flow reckons is what the plain functions say. -/
import Derived.Test.YtbhemimhmkgfiaaDoorFlowMath
import Derived.Test.YtbhemimhmkgfiaaDoorAll22
namespace Go.Proofs.YtbhemimhmkgfiaaDoor
open Go.ChangeShapes Go.WideShapes Go.ChangeAt Go.RowKit
set_option linter.unusedVariables false
set_option linter.unusedSimpArgs false

theorem ofAns_pack {p : Pk} (h : packB p = true) : ofAns p = ofP p := if_pos h
theorem ofAns_not {p : Pk} (h : packB p = false) : ofAns p = zeroTp := if_neg (by unfold packB at h; rw [h]; simp)
theorem zero_not : rightT zeroTp = false := by unfold rightT zeroTp; simp
theorem pack_right {p : Pk} (h : packB p = true) : rightT (ofP p) = true := by
  unfold packB at h
  simp only [Bool.and_eq_true, Bool.not_eq_true'] at h
  exact of_right h.1 h.2
theorem beq_flip (a b : Int) : (a == b) = (b == a) := by
  by_cases h : a = b
  · subst h; rfl
  · rw [beq_eq_false_iff_ne.2 h, beq_eq_false_iff_ne.2 (Ne.symm h)]
/-- may what is of a packet's tuple go on so? -/
theorem may_new (p : Pk) (g : Tp) (now : Int) : (mayB (ofAns p) g && tmB now) = newB p g now := by
  unfold mayB newB
  cases h : packB p
  · rw [ofAns_not h, zero_not]; rfl
  · rw [ofAns_pack h, pack_right h, beq_flip g.proto p.proto, beq_flip g.kind p.kind]
    rfl
theorem new_parts {p : Pk} {g : Tp} {now : Int} (h : newB p g now = true) : packB p = true ∧ rightT g = true ∧ g.proto = p.proto ∧ g.kind = p.kind ∧ tmB now = true := by
  unfold newB at h
  simp only [Bool.and_eq_true, beq_iff_eq] at h
  exact ⟨h.1.1.1.1, h.1.1.1.2, h.1.1.2, h.1.2, h.2⟩
theorem nextZ_bd (s : Int) (b : Bool) (g : Int) : -1 ≤ nextZ s b g := by
  unfold nextZ rstZ synZ bothZ finZ ackZ
  (repeat' split) <;> omega
theorem form_new {p : Pk} {g : Tp} {now : Int} (h : newB p g now = true) : formB (ofP p) (invT g) = !(p.proto == 1 && p.kind == 0) := by
  obtain ⟨hp, hg, e1, e2, _⟩ := new_parts h
  have hr := pack_right hp
  unfold formB
  rw [hr, inv_right hg]
  have q : ((ofP p).proto == (invT g).proto) = true := beq_iff_eq.2 e1.symm
  rw [q]
  simp only [Bool.true_and]
  show (!(p.proto == 1) || (p.kind == 8 && (invT g).kind == 0)) = _
  by_cases h1 : p.proto = 1
  · have k : p.kind = 8 ∨ p.kind = 0 := by
      have := hr
      unfold rightT echoB ofP at this
      simp only [h1, if_true] at this
      simp only [Bool.and_eq_true, Bool.or_eq_true, decide_eq_true_eq] at this
      exact this.2.1
    have ek : (invT g).kind = 8 - p.kind := by unfold invT; rw [if_pos (e1.trans h1), e2]
    rw [ek]
    rcases k with k | k <;> simp [h1, k]
  · have : (p.proto == 1) = false := beq_eq_false_iff_ne.2 h1
    rw [this]; rfl
/-- the code, as impl finds it -/
theorem code_new {p : Pk} {g : Tp} {now : Int} (h : newB p g now = true) : codeN p = if (toZ p.proto 0 false p.flags == -1 || !formB (ofP p) (invT g)) = true then 10 else 0 := by
  rw [form_new h]
  have hb := nextZ_bd 0 false (signZ p.flags)
  unfold codeN
  by_cases h6 : p.proto = 6
  · rw [toZ_6 h6]
    by_cases hn : nextZ 0 false (signZ p.flags) = -1
    · simp [h6, hn]
    · have q : (nextZ 0 false (signZ p.flags) == -1) = false := beq_eq_false_iff_ne.2 hn
      rw [if_neg (by omega), if_neg (by omega), q]
      simp [h6]
  · rw [toZ_no h6, if_neg (by omega)]
    by_cases h1 : p.proto = 1 <;> by_cases k : p.kind = 0 <;> simp [h1, k]
theorem flow_new {p : Pk} {g : Tp} {now : Int} (h : newB p g now = true) (hc : codeN p = 0) : newA p g now = counted ⟨ofP p, invT g, toZ p.proto 0 false p.flags, false, false, 0, 0⟩ now := by
  obtain ⟨hp, _⟩ := new_parts h
  rw [newA_yes h, flowN_yes g now _ hc rfl]
  unfold counted
  simp only
  rw [tillI_eq now (pack_right hp)]
  rfl
/-- of one side -/
theorem of_side {f : Fl} {p : Pk} {b : Bool} (hf : rightF f = true) : sameT (ofAns p) (sideF f b) = (packB p && sameT (ofP p) (sideF f b)) := by
  cases h : packB p
  · rw [ofAns_not h]
    cases e : sameT zeroTp (sideF f b)
    · rfl
    · have := sameT_iff.1 e
      have hr := side_right b hf
      rw [← this, zero_not] at hr; cases hr
  · rw [ofAns_pack h]; rfl
theorem isOf_eq (f : Fl) (p : Pk) (b : Bool) : (rightF f && sameT (ofAns p) (sideF f b)) = isOfF f p b := by
  unfold isOfF
  cases h : rightF f
  · rfl
  · rw [of_side h]; rfl
theorem isOf_parts {f : Fl} {p : Pk} {b : Bool} (h : isOfF f p b = true) : rightF f = true ∧ packB p = true ∧ ofP p = sideF f b := by
  unfold isOfF at h
  simp only [Bool.and_eq_true] at h
  exact ⟨h.1.1, h.1.2, sameT_iff.1 h.2⟩
theorem same_proto {f : Fl} {p : Pk} {b : Bool} (h : isOfF f p b = true) : f.orig.proto = p.proto := by
  obtain ⟨hf, _, e⟩ := isOf_parts h
  have e2 : p.proto = (sideF f b).proto := by rw [← e]; rfl
  rw [e2]
  unfold sideF
  cases b
  · rfl
  · have := hf
    unfold rightF at this
    simp only [Bool.and_eq_true, beq_iff_eq] at this
    exact this.1.1.1.1.2
theorem right_state {f : Fl} (h : rightF f = true) (h6 : ¬ f.orig.proto = 6) : f.state = 0 := by
  unfold rightF partB at h
  simp only [Bool.and_eq_true] at h
  have h2 := h.2
  rw [if_neg h6] at h2
  by_cases h1 : f.orig.proto = 1
  · rw [if_pos h1] at h2; simp at h2; exact h2.1
  · rw [if_neg h1] at h2; simpa using h2
/-- the code, as impl finds it -/
theorem code_next {f : Fl} {p : Pk} {b : Bool} (h : isOfF f p b = true) : codeX f p b = if toZ f.orig.proto f.state b p.flags = -1 then 10 else if f.count = 1000000 then 9 else 0 := by
  have hp := same_proto h
  rw [hp]
  have hb := nextZ_bd f.state b (signZ p.flags)
  unfold codeX
  by_cases h6 : p.proto = 6
  · rw [toZ_6 h6]
    by_cases hn : nextZ f.state b (signZ p.flags) = -1
    · rw [if_pos ⟨h6, by omega⟩, if_pos hn]
    · rw [if_neg (by omega), if_neg hn]
  · rw [toZ_no h6, if_neg (show ¬ (p.proto = 6 ∧ (0:Int) < 0) by omega), if_neg (show ¬ ((0:Int) = -1) by omega)]
theorem flow_next {f : Fl} {p : Pk} {b : Bool} {now : Int} (h : isOfF f p b = true) (ht : tmB now = true) (hc : codeX f p b = 0) : nextA f p b now = counted (ledTo f (toZ f.orig.proto f.state b p.flags) b) now := by
  obtain ⟨hf, _, _⟩ := isOf_parts h
  have hp := same_proto h
  rw [nextA_yes (by rw [h, ht]; rfl)]
  have hl : led f p b = ledTo f (toZ f.orig.proto f.state b p.flags) b := by
    have hs : (if p.proto = 6 then toZ p.proto f.state b p.flags else f.state) = toZ f.orig.proto f.state b p.flags := by
      by_cases h6 : p.proto = 6
      · rw [if_pos h6, hp]
      · rw [if_neg h6, toZ_no (by rw [hp]; exact h6), right_state hf (by rw [hp]; exact h6)]
    unfold led ledTo byB
    simp only [hs, hp]
    cases hu : f.sure <;> cases hn : f.seen <;> cases b <;> cases (p.proto == 6) <;> cases (p.proto == 17) <;> simp
  rw [flowX_yes now _ hc hl]
  have ho : rightT (ledTo f (toZ f.orig.proto f.state b p.flags) b).orig = true := (right_back hf).1
  unfold counted
  rw [tillI_eq now ho]
  rfl
end Go.Proofs.YtbhemimhmkgfiaaDoor
