/- Proved here: spec.AddrText answers the text of an address (else the empty text); all old memory stays (condition: a number that fits int64). -/
import Derived.Test.YtbhemimhmkgfiaaDoorDec
import Derived.Test.YtbhemimhmkgfiaaDoorRightSpec
namespace Go.Proofs.YtbhemimhmkgfiaaDoor
open Go.ChangeShapes Go.WideShapes Go.ChangeAt Go.RowKit
set_option linter.unusedVariables false
set_option maxRecDepth 100000

theorem l01Dec_of {x : Int} (n : Nat) (w : World) (hx : x = (n : Int)) (hn : n ≤ 1099511627776) :
    Calls Tryd.prog 46 #[.int .i64 x] w fun e w' => e = .returned (.string (decT n)) ∧ Below w.heap.size w w' := by
  subst hx; exact l01Dec_any n w hn
theorem decT_size (n : Nat) : (decT n).size ≤ 20 := by
  show (decL n).toArray.size ≤ 20
  unfold decL
  split
  · simp
  · have := decR_len 20 n; simpa using this
/-- the text of an address -/
def dotT : ByteArray := ⟨#[46]⟩
def addrT (n : Nat) : ByteArray := decT (n / 16777216) ++ dotT ++ decT (n / 65536 % 256) ++ dotT ++ decT (n / 256 % 256) ++ dotT ++ decT (n % 256)
def addrAns (n : Int) : ByteArray := if addrB n = true then addrT n.toNat else ⟨#[]⟩

set_option maxHeartbeats 1000000 in
theorem specAddrText_any (n : Int) (w : World) :
    Calls Tryd.prog 45 #[.int .i64 n] w fun e w' => e = .returned (.string (addrAns n)) ∧ Below w.heap.size w w' := by
  cases h : addrB n
  · have e : Hid (addrAns n = ⟨#[]⟩) := if_neg (by rw [h]; simp)
    go_enter Tryd.func45, Tryd.ntmps45
    go_wp2_with fail
    refine (l02Addr_any _ _).mono ?_
    rintro _ w1 ⟨rfl, rfl⟩
    rw [h]
    go_wp2
    go_ret
    exact ⟨by rw [e.out]; rfl, Below.refl _ _⟩
  · obtain ⟨m, rfl⟩ : ∃ m : Nat, n = m := ⟨n.toNat, by have := addrB_iff.1 h; omega⟩
    have e : Hid (addrAns (m : Int) = addrT m) := if_pos h
    have hm := (addrB_iff.1 h).2
    have z1 := decT_size (m / 16777216)
    have z2 := decT_size (m / 65536 % 256)
    have z3 := decT_size (m / 256 % 256)
    have z4 := decT_size (m % 256)
    go_enter Tryd.func45, Tryd.ntmps45
    go_wp2_with fail
    refine (l02Addr_any _ _).mono ?_
    rintro _ w1 ⟨rfl, rfl⟩
    rw [h]
    go_wp2_with fail
    refine (l01Dec_of (m / 16777216) _ (by omega) (by omega)).mono ?_
    rintro _ w2 ⟨rfl, hb2⟩
    go_wp2_with fail
    refine (l01Dec_of (m / 65536 % 256) _ (by omega) (by omega)).mono ?_
    rintro _ w3 ⟨rfl, hb3⟩
    have hB3 := hidS (hb2.trans (hb3.mono hb2.size))
    clear hb2 hb3
    go_wp2_with fail
    refine (l01Dec_of (m / 256 % 256) _ (by omega) (by omega)).mono ?_
    rintro _ w4 ⟨rfl, hb4⟩
    have hB4 := hidS (hB3.out.trans (hb4.mono hB3.out.size))
    clear hB3 hb4
    go_wp2_with fail
    refine (l01Dec_of (m % 256) _ (by omega) (by omega)).mono ?_
    rintro _ w5 ⟨rfl, hb5⟩
    have hB5 := hidS (hB4.out.trans (hb5.mono hB4.out.size))
    clear hB4 hb5
    go_wp2
    go_ret
    exact ⟨by rw [e.out]; rfl, hB5.out⟩
end Go.Proofs.YtbhemimhmkgfiaaDoor
