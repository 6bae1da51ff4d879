/- Proved here: nothing of a program: as whom a right tuple goes on by right rules is right. -/
import Derived.Test.YtpcflfhblomcoaaGoesMath
import Derived.Test.YtpcflfhblomcoaaAll19
namespace Go.Proofs.Ytpcflfhblomcoaa
set_option linter.unusedVariables false

theorem found_right {l : List Rl} {k : Int} {t : Tp} (hl : allR l = true) (h : hasR l k t = true) : rightR (foundR l k t) = true := by
  unfold hasR at h
  unfold foundR
  cases hf : firstR l k t with
  | none => rw [hf] at h; cases h
  | some r => exact allR_iff.1 hl r (firstR_mem hf).1
theorem right_of {t : Tp} : rightT t = true ↔ addrB t.src = true ∧ addrB t.dst = true ∧ wordB t.sport = true ∧ wordB t.dport = true ∧ ((t.proto = 1 ∧ echoB t.kind = true ∧ t.sport = t.dport) ∨ (t.proto ≠ 1 ∧ (t.proto = 6 ∨ t.proto = 17) ∧ t.kind = 0)) := by
  unfold rightT
  by_cases h : t.proto = 1
  · rw [if_pos h]; simp [h, and_assoc]
  · rw [if_neg h]; simp [h, and_assoc]
theorem goal_right {l : List Rl} {t : Tp} (hl : allR l = true) (ht : rightT t = true) : rightT (goalT l t) = true := by
  unfold goalT
  cases hh : hasR l 2 t
  · simpa using ht
  · rw [if_pos rfl]
    obtain ⟨_, _, _, h4, h5, _, _, _⟩ := right_parts (found_right hl hh)
    obtain ⟨a, b, c, d, e⟩ := right_of.1 ht
    refine right_of.2 ⟨a, h4, c, ?_, ?_⟩
    · show wordB (if 0 < _ ∧ t.proto ≠ 1 then _ else _) = true
      split
      · exact h5
      · exact d
    · rcases e with ⟨p, q, r⟩ | ⟨p, q, r⟩
      · left
        refine ⟨p, q, ?_⟩
        show t.sport = if 0 < _ ∧ t.proto ≠ 1 then _ else t.dport
        rw [if_neg (by simp [p])]; exact r
      · exact .inr ⟨p, q, r⟩
theorem port_word {r : Rl} (hr : rightR r = true) {start k : Int} (hs : 0 ≤ start) (hk : 0 ≤ k) : r.low ≤ portN r start k ∧ portN r start k ≤ r.high ∧ wordB (portN r start k) = true := by
  obtain ⟨_, _, _, _, h5, h6, h7, _⟩ := right_parts hr
  obtain ⟨a1, a2⟩ := word_iff.1 h5
  obtain ⟨b1, b2⟩ := word_iff.1 h6
  have hm : 0 < manyR r := by unfold manyR; omega
  have e1 := Int.emod_nonneg (start + k) (by omega : manyR r ≠ 0)
  have e2 := Int.emod_lt_of_pos (start + k) hm
  have e3 : manyR r = r.high - r.low + 1 := rfl
  unfold portN
  exact ⟨by omega, by omega, word_iff.2 ⟨by omega, by omega⟩⟩
theorem name_right {r : Rl} {t : Tp} (hr : rightR r = true) (ht : rightT t = true) {start : Int} (hs : 0 ≤ start) (k : Nat) : rightT (nameK r t start k) = true := by
  obtain ⟨a, b, c, d, e⟩ := right_of.1 ht
  have hp := (port_word hr hs (by omega : (0 : Int) ≤ (k : Int))).2.2
  have hg := (right_parts hr).2.2.2.1
  refine right_of.2 ⟨hg, b, hp, ?_, ?_⟩
  · show wordB (if t.proto = 1 then _ else t.dport) = true
    split
    · exact hp
    · exact d
  · rcases e with ⟨p, q, r'⟩ | ⟨p, q, r'⟩
    · left
      refine ⟨p, q, ?_⟩
      show portN r start k = if t.proto = 1 then portN r start k else t.dport
      rw [if_pos p]
    · exact .inr ⟨p, q, r'⟩
theorem many_bd {r : Rl} (hr : rightR r = true) : 1 ≤ manyR r ∧ manyR r ≤ 65536 := by
  obtain ⟨_, _, _, _, h5, h6, h7, _⟩ := right_parts hr
  obtain ⟨a1, a2⟩ := word_iff.1 h5
  obtain ⟨b1, b2⟩ := word_iff.1 h6
  unfold manyR
  omega
theorem freeF_succ {used : List Tp} {f : Nat → Tp} {k n : Nat} (h : usedB used (f k) = true) : freeF used f k (n + 1) = freeF used f (k + 1) n := by
  show (if usedB used (f k) = true then _ else _) = _
  rw [if_pos h]
theorem freeF_here {used : List Tp} {f : Nat → Tp} {k n : Nat} (h : usedB used (f k) = false) : freeF used f k (n + 1) = some (f k) := by
  show (if usedB used (f k) = true then _ else _) = _
  rw [h]; simp
end Go.Proofs.Ytpcflfhblomcoaa
