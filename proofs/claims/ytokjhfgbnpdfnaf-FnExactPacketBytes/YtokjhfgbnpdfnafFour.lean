/- Proved here: spec.l03Four answers the four bytes of a number; all old memory stays (condition: it is an address). -/
import Derived.Test.YtokjhfgbnpdfnafPacketMath
import Derived.Test.YtokjhfgbnpdfnafTwo
namespace Go.Proofs.Ytokjhfgbnpdfnaf
open Go.ChangeShapes Go.WideShapes Go.ChangeAt Go.RowKit
open Go.ChangeMaps (open_string shut_string)
set_option linter.unusedVariables false

/-- the two bytes of a word -/
def twoT (n : Nat) : ByteArray := ⟨#[UInt8.ofNat (n / 256), UInt8.ofNat (n % 256)]⟩
theorem twoT_size (n : Nat) : (twoT n).size = 2 := rfl
/-- the four bytes of an address -/
def fourT (n : Nat) : ByteArray := twoT (n / 65536) ++ twoT (n % 65536)
theorem fourT_size (n : Nat) : (fourT n).size = 4 := by unfold fourT; rw [ByteArray.size_append]; rfl

theorem l02Two_of {x : Int} (n : Nat) (w : World) (hx : x = (n : Int)) (hn : n ≤ 65535) :
    Calls Try.prog 21 #[.int .i64 x] w fun e w' => e = .returned (.string (twoT n)) ∧ Below w.heap.size w w' := by
  subst hx
  exact l02Two_any n w hn

theorem l03Four_of {x : Int} (n : Nat) (w : World) (hx : x = (n : Int)) (hn : n ≤ 4294967295) :
    Calls Try.prog 39 #[.int .i64 x] w fun e w' => e = .returned (.string (fourT n)) ∧ Below w.heap.size w w' := by
  subst hx
  have hn' : (n : Int) ≤ 4294967295 := by omega
  have z1 := twoT_size (n / 65536)
  have z2 := twoT_size (n % 65536)
  go_enter Try.func39, Try.ntmps39
  go_wp2_with fail
  refine (l02Two_of (n / 65536) _ (by omega) (by omega)).mono ?_
  rintro e w1 ⟨rfl, hb1⟩
  go_wp2_with fail
  refine (l02Two_of (n % 65536) _ (by omega) (by omega)).mono ?_
  rintro e w2 ⟨rfl, hb2⟩
  have hb := hidS (hb1.trans (hb2.mono hb1.size))
  clear hb1 hb2
  go_wp2
  go_ret
  exact ⟨rfl, hb.out⟩
theorem l02Two_x (x : Int) (w : World) (h : wordB x = true) :
    Calls Try.prog 21 #[.int .i64 x] w fun e w' => e = .returned (.string (twoT x.toNat)) ∧ Below w.heap.size w w' := l02Two_of x.toNat w (by have := wordB_iff.1 h; omega) (by have := wordB_iff.1 h; omega)
theorem l03Four_x (x : Int) (w : World) (h : addrB x = true) :
    Calls Try.prog 39 #[.int .i64 x] w fun e w' => e = .returned (.string (fourT x.toNat)) ∧ Below w.heap.size w w' := l03Four_of x.toNat w (by have := addrB_iff.1 h; omega) (by have := addrB_iff.1 h; omega)
end Go.Proofs.Ytokjhfgbnpdfnaf
