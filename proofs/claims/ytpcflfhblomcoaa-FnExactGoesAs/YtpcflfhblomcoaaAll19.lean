/- Proved here: a law on regions of guarded operations that draw their order (no program of its own): what is said of each value may hang on memory. · Proved here: spec.l08Pow answers a power of two, spec.l08Head an address without its last bits, and both leave memory alone (conditions: 0 to 32; an address). · Proved here: nothing of a program: the first rule that holds, looked for one by one. -/
import Derived.Test.YtpcflfhblomcoaaGrow
import Derived.Test.YtpcflfhblomcoaaAll15
import Derived.Test.YtpcflfhblomcoaaRuleMath
import Derived.Test.YtpcflfhblomcoaaAll10
section
namespace Go.Proofs.Ytpcflfhblomcoaa
open Go.ChangeShapes Go.WideShapes Go.ChangeAt Go.RowKit
set_option linter.unusedVariables false
set_option linter.unusedSimpArgs false

section
variable {P : Program} {ops : Array Oper} {Q : Exit → Act → World → Prop} {a0 : Act}
/-- 'grow_guarded' with predicates for kinds -/
theorem grow_gk {id : Nat} {w0 : World} (n : Nat) (ks : List Kp) (hn : ops.size = n) (hm : P.follows .mixedOrders = true) (hT : tidyB ops a0.tmps.size = true) (hl : AllLastB ks)
    (hstep : StepsFrom (StepW P ops (fun W => Below w0.heap.size w0 W) (fun w w' => Below w.heap.size w w') (kpOf ks) a0) 0 ops.toList)
    (hend : ∀ (v : Nat → Value) (w : World), Below w0.heap.size w0 w → (∀ i, i < n → kpOf ks i (v i) w) → Q .normal (upto ops v a0 n) w) :
    (Code.region id ops true).wp P Q a0 w0 := by
  subst hn
  exact grow_region (fun W => Below w0.heap.size w0 W) (fun w w' => Below w.heap.size w w') (kpOf ks) hm hT (fun i v w w' h hb => all_lastB ks hl i v w w' h hb) (Below.refl _ _).drew (fun i o ho => step_of_w (tidy_of hT) ho (by
    have := steps_from ops.toList 0 hstep i o (by simpa using ho)
    rwa [Nat.zero_add] at this)) hend
end
end Go.Proofs.Ytpcflfhblomcoaa
end

section
namespace Go.Proofs.Ytpcflfhblomcoaa
open Go.ChangeShapes Go.WideShapes Go.ChangeAt Go.RowKit
set_option linter.unusedVariables false
set_option linter.unusedSimpArgs false

set_option maxHeartbeats 1000000 in
theorem l08Pow_any (n : Int) (h0 : 0 ≤ n) (h1 : n ≤ 32) (w : World) :
    Calls Try.prog 131 #[.int .i64 n] w fun e w' => e = .returned (.int .i64 (powN n)) ∧ w' = w := by
  go_enter Try.func131, Try.ntmps131
  go_wp2
  go_loop [0, 3] (fun a b => ∃ m : Int, a = .int .i64 m ∧ 0 ≤ m ∧ m ≤ n ∧ b = .int .i64 (powN (n - m))) (fun a _ => (intOf a).toNat)
  case atStart => exact ⟨n, rfl, h0, Int.le_refl _, by rw [Int.sub_self]; rfl⟩
  case round =>
    obtain ⟨m, rfl, hm0, hm1, rfl⟩ := hrel
    have hp := pow_pos' (n - m)
    have hl := pow_le (n := n - m) (by omega) (by omega)
    by_cases hlt : 0 < m
    · have hs := hidS (pow_step (n := n - m) (by omega))
      go_wp2
      go_round
      case rel => exact ⟨m - 1, rfl, by omega, by omega, by rw [show n - (m - 1) = n - m + 1 by omega, hs.out]⟩
      case measure => simp [intOf]; omega
    · have e : m = 0 := by omega
      subst e
      go_wp2
      go_ret
      exact ⟨rfl, rfl⟩
set_option maxHeartbeats 1000000 in
theorem l08Head_any (a b : Int) (ha : 0 ≤ a) (ha2 : a ≤ 4294967295) (h0 : 0 ≤ b) (h1 : b ≤ 32) (w : World) :
    Calls Try.prog 93 #[.int .i64 a, .int .i64 b] w fun e w' => e = .returned (.int .i64 (headN a b)) ∧ w' = w := by
  have hp := pow_pos' (32 - b)
  have hl := pow_le (n := 32 - b) (by omega) (by omega)
  have hd := div_bd ha hp
  have hh := head_bd (b := b) ha
  have hH : Hid (headN a b = a / powN (32 - b) * powN (32 - b)) := rfl
  go_enter Try.func93, Try.ntmps93
  go_wp2_with fail
  refine (l08Pow_any (32 - b) (by omega) (by omega) _).mono ?_
  rintro _ w1 ⟨rfl, rfl⟩
  have hm : 0 ≤ a / powN (32 - b) * powN (32 - b) ∧ a / powN (32 - b) * powN (32 - b) ≤ a := hh
  generalize powN (32 - b) = p at *
  go_wp2
  go_ret
  exact ⟨by rw [hH.out]; rfl, rfl⟩
end Go.Proofs.Ytpcflfhblomcoaa
end

section
namespace Go.Proofs.Ytpcflfhblomcoaa
set_option linter.unusedVariables false

theorem take_none {l : List Rl} {k : Nat} {K : Int} {t : Tp} (h : ∀ r ∈ l.take k, forR r K t = false) : firstR l K t = firstR (l.drop k) K t := by
  have := firstR_none (b := l.drop k) h
  rwa [List.take_append_drop] at this
theorem first_here {l : List Rl} {k : Nat} {K : Int} {t : Tp} (hk : k < l.length) (h : ∀ r ∈ l.take k, forR r K t = false) (hr : forR (l.getD k zeroRl) K t = true) : foundR l K t = l.getD k zeroRl ∧ hasR l K t = true := by
  have e := take_none h
  rw [List.drop_eq_getElem_cons hk] at e
  have hg : l.getD k zeroRl = l[k] := by simp [hk]
  rw [hg] at hr ⊢
  have e2 : firstR l K t = some l[k] := e.trans (if_pos hr)
  unfold foundR hasR
  rw [e2]
  exact ⟨rfl, rfl⟩
theorem first_end {l : List Rl} {K : Int} {t : Tp} (h : ∀ r ∈ l.take l.length, forR r K t = false) : foundR l K t = zeroRl ∧ hasR l K t = false := by
  have e := take_none h
  rw [List.drop_length] at e
  unfold foundR hasR
  rw [e]
  exact ⟨rfl, rfl⟩
theorem take_more {l : List Rl} {k : Nat} {K : Int} {t : Tp} (hk : k < l.length) (h : ∀ r ∈ l.take k, forR r K t = false) (hr : forR (l.getD k zeroRl) K t = false) : ∀ r ∈ l.take (k + 1), forR r K t = false := by
  intro r hm
  rw [List.take_succ_eq_append_getElem hk] at hm
  have hg : l.getD k zeroRl = l[k] := by simp [hk]
  rw [hg] at hr
  rcases List.mem_append.1 hm with q | q
  · exact h r q
  · simp at q; rw [q]; exact hr
theorem allR_get {l : List Rl} {k : Nat} (hk : k < l.length) (h : allR l = true) : rightR (l.getD k zeroRl) = true := allR_iff.1 h _ (by simp [hk])
/-- does a rule hold, its kind aside? -/
def isForB (r : Rl) (t : Tp) : Bool := (r.proto == 0 || r.proto == t.proto) && inNetB (namedA r.kind t) r.net r.bits
theorem for_is {r : Rl} {k : Int} {t : Tp} (hr : rightR r = true) (ht : rightT t = true) : forR r k t = (r.kind == k && isForB r t) := by
  unfold forR isForB
  cases h : (r.kind == k)
  · rfl
  · have e : r.kind = k := by simpa using h
    rw [e, inNet_right hr ht, Bool.and_assoc]
end Go.Proofs.Ytpcflfhblomcoaa
end
