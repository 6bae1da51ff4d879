/- Proved here: impl.allOf of tuples and TupleRight answers whether all are right; all old memory stays (conditions: they can be read; at most 2^20). · Proved here: nothing of a program: what a time is. -/
import Derived.Test.YtpcflfhblomcoaaTRightI
import Derived.Test.YtpcflfhblomcoaaRowTuple
import Derived.Test.YtpcflfhblomcoaaRuleMath
import Derived.Test.YtpcflfhblomcoaaWords
section
namespace Go.Proofs.Ytpcflfhblomcoaa
open Go.ChangeShapes Go.WideShapes Go.ChangeAt Go.RowKit
set_option linter.unusedVariables false
set_option linter.unusedSimpArgs false

set_option maxHeartbeats 2000000 in
theorem allOfT_any (a : Option Addr) (cap : Nat) (l : List Tp) (w : World) (hR : RowZ a (flatTuple l) w) (hz : l.length ≤ 1048576) :
    Calls Try.prog 77 #[.slice a l.length cap, .func (.func 76) #[] #[]] w fun e w' => e = .returned (.bool (allT l)) ∧ Below w.heap.size w w' := by
  have HR := hidS hR
  clear hR
  go_enter Try.func77, Try.ntmps77
  go_wp2
  go_loopw [9] (fun i wr => ∃ k : Nat, i = .int .i64 (k : Int) ∧ k ≤ l.length ∧ Hid (allT (l.take k) = true) ∧ Below w.heap.size w wr) (fun i _ => (l.length - (intOf i).toNat))
  case atStart => exact ⟨0, rfl, Nat.zero_le _, rfl, Below.refl _ _⟩
  case round =>
    obtain ⟨k, rfl, hk, hA, hb⟩ := hrel
    have HB := hidS hb
    clear hb
    by_cases hlt : k < l.length
    · have hlt' : (k : Int) < (l.length : Int) := by omega
      obtain ⟨b, o, rfl, hbl, c0, c1, c2, c3, c4, c5⟩ := (HR.out.later HB.out).tuple hlt
      have HT := hidS (fun W => implTRight_any (l.getD k zeroTp) W)
      have hbad := hidS (fun q => allT_bad hlt q)
      have hnx := hidS (allT_take hlt)
      generalize l.getD k zeroTp = s at *
      have HB0 := hidS (HB.out.alloc HB.out.size (.cells #[.int .i64 s.proto, .int .i64 s.src, .int .i64 s.sport, .int .i64 s.dst, .int .i64 s.dport, .int .i64 s.kind] 52))
      go_wp2_with fail
      refine (HT.out _).mono ?_
      rintro _ w1 ⟨rfl, hb1⟩
      have HB1 := hidS (HB0.out.trans (hb1.mono HB0.out.size))
      clear hb1 HB HB0 c0 c1 c2 c3 c4 c5
      cases hs : rightT s
      · have E : Hid (allT l = false) := hbad.out hs
        clear hbad hnx
        go_wp2_with fail
        go_ret
        exact ⟨by rw [E.out]; rfl, HB1.out⟩
      · have hN : Hid (allT (l.take (k + 1)) = true) := hnx.out.trans (by rw [hA.out, hs] <;> rfl)
        clear hbad hnx hA
        go_wp2_with fail
        go_roundw
        case rel => exact ⟨k + 1, by simp, by omega, hN, HB1.out⟩
        case measure => simp [intOf]; omega
    · have hge : ¬ (k : Int) < (l.length : Int) := by omega
      have E : Hid (allT l = true) := by have := hA.out; rw [List.take_of_length_le (by omega)] at this; exact this
      clear hA hlt
      go_wp2_with fail
      go_ret
      exact ⟨by rw [E.out]; rfl, HB.out⟩
end Go.Proofs.Ytpcflfhblomcoaa
end

section
namespace Go.Proofs.Ytpcflfhblomcoaa
set_option linter.unusedVariables false

def tmB (n : Int) : Bool := decide (0 ≤ n) && decide (n ≤ 1000000)
theorem tmB_iff {n : Int} : tmB n = true ↔ 0 ≤ n ∧ n ≤ 1000000 := by unfold tmB; simp
end Go.Proofs.Ytpcflfhblomcoaa
end
