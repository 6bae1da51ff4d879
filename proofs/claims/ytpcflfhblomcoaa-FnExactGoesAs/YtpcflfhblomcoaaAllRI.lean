/- Proved here: impl.allOf of rules and RuleRight answers whether all are right; all old memory stays (conditions: they can be read; at most 2^20). -/
import Derived.Test.YtpcflfhblomcoaaRuleI
import Derived.Test.YtpcflfhblomcoaaRowRule
namespace Go.Proofs.Ytpcflfhblomcoaa
open Go.ChangeShapes Go.WideShapes Go.ChangeAt Go.RowKit
set_option linter.unusedVariables false
set_option linter.unusedSimpArgs false

set_option maxHeartbeats 2000000 in
theorem allOfR_any (a : Option Addr) (cap : Nat) (l : List Rl) (w : World) (hR : RowZ a (flatRule l) w) (hz : l.length ≤ 1048576) :
    Calls Try.prog 98 #[.slice a l.length cap, .func (.func 31) #[] #[]] w fun e w' => e = .returned (.bool (allR l)) ∧ Below w.heap.size w w' := by
  have HR := hidS hR
  clear hR
  go_enter Try.func98, Try.ntmps98
  go_wp2
  go_loopw [9] (fun i wr => ∃ k : Nat, i = .int .i64 (k : Int) ∧ k ≤ l.length ∧ Hid (allR (l.take k) = true) ∧ Below w.heap.size w wr) (fun i _ => (l.length - (intOf i).toNat))
  case atStart => exact ⟨0, rfl, Nat.zero_le _, rfl, Below.refl _ _⟩
  case round =>
    obtain ⟨k, rfl, hk, hA, hb⟩ := hrel
    have HB := hidS hb
    clear hb
    by_cases hlt : k < l.length
    · have hlt' : (k : Int) < (l.length : Int) := by omega
      obtain ⟨b, o, rfl, hbl, c0, c1, c2, c3, c4, c5, c6⟩ := (HR.out.later HB.out).rule hlt
      have HT := hidS (fun W => implRR_any (l.getD k zeroRl) W)
      have hbad := hidS (fun q => allR_bad hlt q)
      have hnx := hidS (allR_take hlt)
      generalize l.getD k zeroRl = s at *
      have HB0 := hidS (HB.out.alloc HB.out.size (.cells #[.int .i64 s.kind, .int .i64 s.proto, .int .i64 s.net, .int .i64 s.bits, .int .i64 s.goal, .int .i64 s.low, .int .i64 s.high] 64))
      go_wp2_with fail
      refine (HT.out _).mono ?_
      rintro _ w1 ⟨rfl, hb1⟩
      have HB1 := hidS (HB0.out.trans (hb1.mono HB0.out.size))
      clear hb1 HB HB0 c0 c1 c2 c3 c4 c5 c6
      cases hs : rightR s
      · have E : Hid (allR l = false) := hbad.out hs
        clear hbad hnx
        go_wp2_with fail
        go_ret
        exact ⟨by rw [E.out]; rfl, HB1.out⟩
      · have hN : Hid (allR (l.take (k + 1)) = true) := hnx.out.trans (by rw [hA.out, hs] <;> rfl)
        clear hbad hnx hA
        go_wp2_with fail
        go_roundw
        case rel => exact ⟨k + 1, by simp, by omega, hN, HB1.out⟩
        case measure => simp [intOf]; omega
    · have hge : ¬ (k : Int) < (l.length : Int) := by omega
      have E : Hid (allR l = true) := by have := hA.out; rw [List.take_of_length_le (by omega)] at this; exact this
      clear hA hlt
      go_wp2_with fail
      go_ret
      exact ⟨by rw [E.out]; rfl, HB.out⟩
set_option maxHeartbeats 1000000 in
theorem implRules_any (a : Option Addr) (cap : Nat) (l : List Rl) (w : World) (hR : RowZ a (flatRule l) w) (hz : l.length ≤ 1048576) :
    Calls Try.prog 33 #[.slice a l.length cap] w fun e w' => e = .returned (.bool (rulesB l)) ∧ Below w.heap.size w w' := by
  have HT := hidS (allOfR_any a cap l w hR hz)
  have hE : Hid (rulesB l = (decide (l.length ≤ 6) && allR l)) := rfl
  clear hR
  by_cases h6 : (l.length : Int) ≤ 6
  · have E : Hid (rulesB l = allR l) := hE.out.trans (by rw [show decide (l.length ≤ 6) = true by simp; omega] <;> simp)
    clear hE
    go_enter Try.func33, Try.ntmps33
    go_wp2_with fail
    refine HT.out.mono ?_
    rintro _ w1 ⟨rfl, hb1⟩
    have HB1 := hidS hb1
    clear hb1
    go_wp2_with fail
    go_ret
    exact ⟨by rw [E.out]; rfl, HB1.out⟩
  · have E : Hid (rulesB l = false) := hE.out.trans (by rw [show decide (l.length ≤ 6) = false by simp; omega] <;> simp)
    clear hE
    go_enter Try.func33, Try.ntmps33
    go_wp2_with fail
    go_ret
    exact ⟨by rw [E.out]; rfl, Below.refl _ _⟩
end Go.Proofs.Ytpcflfhblomcoaa
