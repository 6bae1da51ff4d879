/- Proved here: impl.allOf of rules and RuleRight answers whether all are right; all old memory stays (conditions: they can be read; at most 2^20). · Proved here: impl.allOf of tuples and TupleRight answers whether all are right; all old memory stays (conditions: they can be read; at most 2^20). · Proved here: nothing of a program: what a time is. · Proved here: impl.areTimes answers whether all of a row are times, and leaves memory alone (condition: at most 1000 of them). · Proved here: a law on regions of guarded operations that draw their order (no program of its own): what is said of each value may hang on memory. -/
import Derived.Test.YtilajoafppplcaaRuleI
import Derived.Test.YtilajoafppplcaaAll6
import Derived.Test.YtilajoafppplcaaAll31
import Derived.Test.YtilajoafppplcaaAll14
import Derived.Test.YtilajoafppplcaaAll5
import Derived.Test.YtilajoafppplcaaAll27
import Derived.Test.YtilajoafppplcaaGrow
import Derived.Test.YtilajoafppplcaaAll1
section
namespace Go.Proofs.Ytilajoafppplcaa
open Go.ChangeShapes Go.WideShapes Go.ChangeAt Go.RowKit
set_option linter.unusedVariables false
set_option linter.unusedSimpArgs false

set_option maxHeartbeats 2000000 in
theorem allOfR_any (a : Option Addr) (cap : Nat) (l : List Rl) (w : World) (hR : RowZ a (flatRule l) w) (hz : l.length ≤ 1048576) :
    Calls Try.prog 89 #[.slice a l.length cap, .func (.func 30) #[] #[]] w fun e w' => e = .returned (.bool (allR l)) ∧ Below w.heap.size w w' := by
  have HR := hidS hR
  clear hR
  go_enter Try.func89, Try.ntmps89
  go_wp2
  go_loopw [9] (fun i wr => ∃ k : Nat, i = .int .i64 (k : Int) ∧ k ≤ l.length ∧ Hid (allR (l.take k) = true) ∧ Below w.heap.size w wr) (fun i _ => (l.length - (intOf i).toNat))
  case atStart => exact ⟨0, rfl, Nat.zero_le _, rfl, Below.refl _ _⟩
  case round =>
    obtain ⟨k, rfl, hk, hA, hb⟩ := hrel
    have HB := hidS hb
    clear hb
    by_cases hlt : k < l.length
    · have hlt' : (k : Int) < (l.length : Int) := by omega
      obtain ⟨b, o, rfl, hbl, c0, c1, c2, c3, c4, c5, c6⟩ := (HR.out.later HB.out).rule hlt
      have HT := hidS (fun W => implRR_any (l.getD k zeroRl) W)
      have hbad := hidS (fun q => allR_bad hlt q)
      have hnx := hidS (allR_take hlt)
      generalize l.getD k zeroRl = s at *
      have HB0 := hidS (HB.out.alloc HB.out.size (.cells #[.int .i64 s.kind, .int .i64 s.proto, .int .i64 s.net, .int .i64 s.bits, .int .i64 s.goal, .int .i64 s.low, .int .i64 s.high] 64))
      go_wp2_with fail
      refine (HT.out _).mono ?_
      rintro _ w1 ⟨rfl, hb1⟩
      have HB1 := hidS (HB0.out.trans (hb1.mono HB0.out.size))
      clear hb1 HB HB0 c0 c1 c2 c3 c4 c5 c6
      cases hs : rightR s
      · have E : Hid (allR l = false) := hbad.out hs
        clear hbad hnx
        go_wp2_with fail
        go_ret
        exact ⟨by rw [E.out]; rfl, HB1.out⟩
      · have hN : Hid (allR (l.take (k + 1)) = true) := hnx.out.trans (by rw [hA.out, hs] <;> rfl)
        clear hbad hnx hA
        go_wp2_with fail
        go_roundw
        case rel => exact ⟨k + 1, by simp, by omega, hN, HB1.out⟩
        case measure => simp [intOf]; omega
    · have hge : ¬ (k : Int) < (l.length : Int) := by omega
      have E : Hid (allR l = true) := by have := hA.out; rw [List.take_of_length_le (by omega)] at this; exact this
      clear hA hlt
      go_wp2_with fail
      go_ret
      exact ⟨by rw [E.out]; rfl, HB.out⟩
set_option maxHeartbeats 1000000 in
theorem implRules_any (a : Option Addr) (cap : Nat) (l : List Rl) (w : World) (hR : RowZ a (flatRule l) w) (hz : l.length ≤ 1048576) :
    Calls Try.prog 32 #[.slice a l.length cap] w fun e w' => e = .returned (.bool (rulesB l)) ∧ Below w.heap.size w w' := by
  have HT := hidS (allOfR_any a cap l w hR hz)
  have hE : Hid (rulesB l = (decide (l.length ≤ 6) && allR l)) := rfl
  clear hR
  by_cases h6 : (l.length : Int) ≤ 6
  · have E : Hid (rulesB l = allR l) := hE.out.trans (by rw [show decide (l.length ≤ 6) = true by simp; omega] <;> simp)
    clear hE
    go_enter Try.func32, Try.ntmps32
    go_wp2_with fail
    refine HT.out.mono ?_
    rintro _ w1 ⟨rfl, hb1⟩
    have HB1 := hidS hb1
    clear hb1
    go_wp2_with fail
    go_ret
    exact ⟨by rw [E.out]; rfl, HB1.out⟩
  · have E : Hid (rulesB l = false) := hE.out.trans (by rw [show decide (l.length ≤ 6) = false by simp; omega] <;> simp)
    clear hE
    go_enter Try.func32, Try.ntmps32
    go_wp2_with fail
    go_ret
    exact ⟨by rw [E.out]; rfl, Below.refl _ _⟩
end Go.Proofs.Ytilajoafppplcaa
end

section
namespace Go.Proofs.Ytilajoafppplcaa
open Go.ChangeShapes Go.WideShapes Go.ChangeAt Go.RowKit
set_option linter.unusedVariables false
set_option linter.unusedSimpArgs false

set_option maxHeartbeats 2000000 in
theorem allOfT_any (a : Option Addr) (cap : Nat) (l : List Tp) (w : World) (hR : RowZ a (flatTuple l) w) (hz : l.length ≤ 1048576) :
    Calls Try.prog 68 #[.slice a l.length cap, .func (.func 67) #[] #[]] w fun e w' => e = .returned (.bool (allT l)) ∧ Below w.heap.size w w' := by
  have HR := hidS hR
  clear hR
  go_enter Try.func68, Try.ntmps68
  go_wp2
  go_loopw [9] (fun i wr => ∃ k : Nat, i = .int .i64 (k : Int) ∧ k ≤ l.length ∧ Hid (allT (l.take k) = true) ∧ Below w.heap.size w wr) (fun i _ => (l.length - (intOf i).toNat))
  case atStart => exact ⟨0, rfl, Nat.zero_le _, rfl, Below.refl _ _⟩
  case round =>
    obtain ⟨k, rfl, hk, hA, hb⟩ := hrel
    have HB := hidS hb
    clear hb
    by_cases hlt : k < l.length
    · have hlt' : (k : Int) < (l.length : Int) := by omega
      obtain ⟨b, o, rfl, hbl, c0, c1, c2, c3, c4, c5⟩ := (HR.out.later HB.out).tuple hlt
      have HT := hidS (fun W => implTRight_any (l.getD k zeroTp) W)
      have hbad := hidS (fun q => allT_bad hlt q)
      have hnx := hidS (allT_take hlt)
      generalize l.getD k zeroTp = s at *
      have HB0 := hidS (HB.out.alloc HB.out.size (.cells #[.int .i64 s.proto, .int .i64 s.src, .int .i64 s.sport, .int .i64 s.dst, .int .i64 s.dport, .int .i64 s.kind] 52))
      go_wp2_with fail
      refine (HT.out _).mono ?_
      rintro _ w1 ⟨rfl, hb1⟩
      have HB1 := hidS (HB0.out.trans (hb1.mono HB0.out.size))
      clear hb1 HB HB0 c0 c1 c2 c3 c4 c5
      cases hs : rightT s
      · have E : Hid (allT l = false) := hbad.out hs
        clear hbad hnx
        go_wp2_with fail
        go_ret
        exact ⟨by rw [E.out]; rfl, HB1.out⟩
      · have hN : Hid (allT (l.take (k + 1)) = true) := hnx.out.trans (by rw [hA.out, hs] <;> rfl)
        clear hbad hnx hA
        go_wp2_with fail
        go_roundw
        case rel => exact ⟨k + 1, by simp, by omega, hN, HB1.out⟩
        case measure => simp [intOf]; omega
    · have hge : ¬ (k : Int) < (l.length : Int) := by omega
      have E : Hid (allT l = true) := by have := hA.out; rw [List.take_of_length_le (by omega)] at this; exact this
      clear hA hlt
      go_wp2_with fail
      go_ret
      exact ⟨by rw [E.out]; rfl, HB.out⟩
end Go.Proofs.Ytilajoafppplcaa
end

section
namespace Go.Proofs.Ytilajoafppplcaa
set_option linter.unusedVariables false

def tmB (n : Int) : Bool := decide (0 ≤ n) && decide (n ≤ 1000000)
theorem tmB_iff {n : Int} : tmB n = true ↔ 0 ≤ n ∧ n ≤ 1000000 := by unfold tmB; simp
end Go.Proofs.Ytilajoafppplcaa
end

section
namespace Go.Proofs.Ytilajoafppplcaa
open Go.ChangeShapes Go.WideShapes Go.ChangeAt Go.RowKit
open Go.ChangeMaps (open_string shut_string)
set_option linter.unusedVariables false

/-- all of them are times -/
def allTm (zs : List Int) : Bool := zs.all tmB
theorem allTm_take_succ (zs : List Int) (k : Nat) (h : k < zs.length) : allTm (zs.take (k + 1)) = (allTm (zs.take k) && tmB zs[k]) := by
  unfold allTm; rw [List.take_succ_eq_append_getElem h, List.all_append]; simp
theorem allTm_bad (zs : List Int) (k : Nat) (h : k < zs.length) (hb : tmB zs[k] = false) : allTm zs = false := by
  cases e : allTm zs
  · rfl
  · have := List.all_eq_true.1 e zs[k] (List.getElem_mem h); rw [hb] at this; cases this
set_option maxHeartbeats 400000 in
theorem areTm_any (g : Nat) (zs : List Int) (w : World) (hc : ∀ j, (h : j < zs.length) → w.cell? ⟨g, j, none⟩ = some (.int .i64 zs[j])) (hl : zs.length ≤ 1000) :
    Calls Try.prog 56 #[.slice (some ⟨g, 0, none⟩) zs.length zs.length] w fun e w' => e = .returned (.bool (allTm zs)) ∧ w' = w := by
  have HC := hidS hc
  clear hc
  go_enter Try.func56, Try.ntmps56
  go_wp2
  go_loop [7] (fun i => ∃ k : Nat, k ≤ zs.length ∧ i = .int .i64 k ∧ Hid (allTm (zs.take k) = true)) (fun i => zs.length - (intOf i).toNat)
  case atStart => exact ⟨0, by omega, rfl, rfl⟩
  case round =>
    obtain ⟨k, hk, rfl, hX⟩ := hrel
    by_cases h : k < zs.length
    · have h' : (k : Int) < (zs.length : Int) := by omega
      have hck := HC.out k h
      have hA := hidS (allTm_bad zs k h)
      have hB : Hid (tmB zs[k] = true → allTm (zs.take (k + 1)) = true) := by intro q; rw [allTm_take_succ zs k h, hX.out, q]; rfl
      generalize zs[k] = z at *
      clear hX
      by_cases h1 : z < 0
      · have hE : Hid (allTm zs = false) := hA.out (by simp [tmB]; omega)
        clear hA hB
        go_wp2
        go_ret
        exact ⟨by rw [hE.out]; rfl, rfl⟩
      · by_cases h2 : 1000000 < z
        · have hE : Hid (allTm zs = false) := hA.out (by simp [tmB]; omega)
          clear hA hB
          go_wp2
          go_ret
          exact ⟨by rw [hE.out]; rfl, rfl⟩
        · have hE := hidS (hB.out (by simp [tmB]; omega))
          clear hA hB
          go_wp2
          go_round
          case rel => exact ⟨k + 1, by omega, by go_num, hE⟩
          case measure => simp [intOf]; omega
    · have hE : Hid (allTm zs = true) := by have := hX.out; rw [List.take_of_length_le (by omega)] at this; exact this
      clear hX
      go_wp2
      go_ret
      exact ⟨by rw [hE.out]; rfl, rfl⟩
theorem areTm_one (g : Nat) (a : Int) (w : World) (hc : w.cell? ⟨g, 0, none⟩ = some (.int .i64 a)) :
    Calls Try.prog 56 #[.slice (some ⟨g, 0, none⟩) 1 1] w fun e w' => e = .returned (.bool (tmB a)) ∧ w' = w := by
  have := areTm_any g [a] w (fun j h => by obtain rfl : j = 0 := by simp at h; omega
                                           exact hc) (by simp)
  have e : allTm [a] = tmB a := by simp [allTm]
  rw [e] at this
  exact this
theorem areTm_two (g : Nat) (a b : Int) (w : World) (h0 : w.cell? ⟨g, 0, none⟩ = some (.int .i64 a)) (h1 : w.cell? ⟨g, 1, none⟩ = some (.int .i64 b)) :
    Calls Try.prog 56 #[.slice (some ⟨g, 0, none⟩) 2 2] w fun e w' => e = .returned (.bool (tmB a && tmB b)) ∧ w' = w := by
  have := areTm_any g [a, b] w (fun j h => by
    obtain rfl | rfl : j = 0 ∨ j = 1 := by simp at h; omega
    · exact h0
    · exact h1) (by simp)
  have e : allTm [a, b] = (tmB a && tmB b) := by simp [allTm]
  rw [e] at this
  exact this
end Go.Proofs.Ytilajoafppplcaa
end

section
namespace Go.Proofs.Ytilajoafppplcaa
open Go.ChangeShapes Go.WideShapes Go.ChangeAt Go.RowKit
set_option linter.unusedVariables false
set_option linter.unusedSimpArgs false

section
variable {P : Program} {ops : Array Oper} {Q : Exit → Act → World → Prop} {a0 : Act}
/-- 'grow_guarded' with predicates for kinds -/
theorem grow_gk {id : Nat} {w0 : World} (n : Nat) (ks : List Kp) (hn : ops.size = n) (hm : P.follows .mixedOrders = true) (hT : tidyB ops a0.tmps.size = true) (hl : AllLastB ks)
    (hstep : StepsFrom (StepW P ops (fun W => Below w0.heap.size w0 W) (fun w w' => Below w.heap.size w w') (kpOf ks) a0) 0 ops.toList)
    (hend : ∀ (v : Nat → Value) (w : World), Below w0.heap.size w0 w → (∀ i, i < n → kpOf ks i (v i) w) → Q .normal (upto ops v a0 n) w) :
    (Code.region id ops true).wp P Q a0 w0 := by
  subst hn
  exact grow_region (fun W => Below w0.heap.size w0 W) (fun w w' => Below w.heap.size w w') (kpOf ks) hm hT (fun i v w w' h hb => all_lastB ks hl i v w w' h hb) (Below.refl _ _).drew (fun i o ho => step_of_w (tidy_of hT) ho (by
    have := steps_from ops.toList 0 hstep i o (by simpa using ho)
    rwa [Nat.zero_add] at this)) hend
end
end Go.Proofs.Ytilajoafppplcaa
end
