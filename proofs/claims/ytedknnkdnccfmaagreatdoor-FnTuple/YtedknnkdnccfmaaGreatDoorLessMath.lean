/- Proved here: nothing of a program: which of two tuples is ahead, by their six numbers one by one. -/
import Derived.Test.YtedknnkdnccfmaaGreatDoorTupMath
namespace Go.Proofs.YtedknnkdnccfmaaGreatDoor
set_option linter.unusedVariables false

/-- a tuple's six numbers -/
def numsT (t : Tp) : List Int := [t.proto, t.src, t.sport, t.dst, t.dport, t.kind]
/-- the first place at which they differ decides -/
def lessL : List Int → List Int → Bool
  | x :: xs, y :: ys => if x = y then lessL xs ys else decide (x < y)
  | _, _ => false
theorem lessL_at : ∀ (xs ys : List Int) (k : Nat) (hx : k < xs.length) (hy : k < ys.length), xs.take k = ys.take k → xs[k] ≠ ys[k] → lessL xs ys = decide (xs[k] < ys[k])
  | [], _, k, hx, _, _, _ => by simp at hx
  | _ :: _, [], k, _, hy, _, _ => by simp at hy
  | x :: xs, y :: ys, 0, _, _, _, h => by simp only [List.getElem_cons_zero] at h ⊢; unfold lessL; rw [if_neg h]
  | x :: xs, y :: ys, k + 1, hx, hy, ht, h => by
    simp only [List.take_succ_cons, List.cons.injEq] at ht
    simp only [List.getElem_cons_succ] at h ⊢
    unfold lessL
    rw [if_pos ht.1]
    exact lessL_at xs ys k (by simpa using hx) (by simpa using hy) ht.2 h
theorem lessL_same : ∀ xs : List Int, lessL xs xs = false
  | [] => rfl
  | x :: xs => by unfold lessL; rw [if_pos rfl]; exact lessL_same xs
theorem lessT_nums (a b : Tp) : lessL (numsT a) (numsT b) = lessT a b := by
  unfold numsT lessT lessL
  by_cases h1 : a.proto = b.proto
  · rw [if_pos h1, if_pos h1]
    unfold lessL
    by_cases h2 : a.src = b.src
    · rw [if_pos h2, if_pos h2]
      unfold lessL
      by_cases h3 : a.sport = b.sport
      · rw [if_pos h3, if_pos h3]
        unfold lessL
        by_cases h4 : a.dst = b.dst
        · rw [if_pos h4, if_pos h4]
          unfold lessL
          by_cases h5 : a.dport = b.dport
          · rw [if_pos h5, if_pos h5]
            unfold lessL
            by_cases h6 : a.kind = b.kind
            · rw [if_pos h6, h6]; simp [lessL]
            · rw [if_neg h6]
          · rw [if_neg h5, if_neg h5]
        · rw [if_neg h4, if_neg h4]
      · rw [if_neg h3, if_neg h3]
    · rw [if_neg h2, if_neg h2]
  · rw [if_neg h1, if_neg h1]
theorem take_succ_same {xs ys : List Int} {k : Nat} (hx : k < xs.length) (hy : k < ys.length) (h : xs.take k = ys.take k) (e : xs[k] = ys[k]) : xs.take (k + 1) = ys.take (k + 1) := by
  rw [List.take_succ_eq_append_getElem hx, List.take_succ_eq_append_getElem hy, h, e]
end Go.Proofs.YtedknnkdnccfmaaGreatDoor
