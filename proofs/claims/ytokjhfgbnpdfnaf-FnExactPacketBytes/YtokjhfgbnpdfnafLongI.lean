/- Proved here: impl.longText answers the four bytes of a number; all old memory stays (condition: the number is an address). -/
import Derived.Test.YtokjhfgbnpdfnafJoinAny
import Derived.Test.YtokjhfgbnpdfnafWordI
import Derived.Test.YtokjhfgbnpdfnafFour
import Derived.Test.YtokjhfgbnpdfnafBlk
namespace Go.Proofs.Ytokjhfgbnpdfnaf
open Go.ChangeShapes Go.WideShapes Go.ChangeAt Go.RowKit
open Go.ChangeMaps (open_string shut_string)
set_option linter.unusedVariables false
set_option maxRecDepth 100000

theorem wordT_two {x : Int} (h : wordB x = true) : wordT x = twoT x.toNat := if_pos h
theorem implWord_x (x : Int) (w : World) (h : wordB x = true) :
    Calls Try.prog 10 #[.int .i64 x] w fun e w' => e = .returned (.string (twoT x.toNat)) ∧ Below w.heap.size w w' := by
  rw [← wordT_two h]; exact implWordText_any x w
theorem implWord_of {x : Int} (n : Nat) (w : World) (hx : x = (n : Int)) (hn : n ≤ 65535) :
    Calls Try.prog 10 #[.int .i64 x] w fun e w' => e = .returned (.string (twoT n)) ∧ Below w.heap.size w w' := by
  subst hx; exact implWord_x (n : Int) w (wordB_iff.2 ⟨by omega, by omega⟩)
theorem cat2 (a b : ByteArray) : catT [a, b] = a ++ b := ByteArray.ext (by simp [catT, catL])

set_option maxHeartbeats 1000000 in
theorem longText_x (x : Int) (w : World) (h : addrB x = true) :
    Calls Try.prog 36 #[.int .i64 x] w fun e w' => e = .returned (.string (fourT x.toNat)) ∧ Below w.heap.size w w' := by
  obtain ⟨n, rfl⟩ : ∃ n : Nat, x = n := ⟨x.toNat, by have := addrB_iff.1 h; omega⟩
  have hn : n ≤ 4294967295 := by have := (addrB_iff.1 h).2; omega
  have hlow := i64_low16 n (by omega)
  clear h
  go_enter Try.func36, Try.ntmps36
  go_wp2_with fail
  refine (implWord_of (n / 65536) _ (by omega) (by omega)).mono ?_
  rintro _ w1 ⟨rfl, hb1⟩
  go_wp2_with fail
  refine (implWord_of (n % 65536) _ (by omega) (by omega)).mono ?_
  rintro _ w2 ⟨rfl, hb2⟩
  have hL := hidS (hb1.trans (hb2.mono hb1.size))
  clear hb1 hb2
  have hv := vals_at (W := w2) [.string (twoT (n / 65536)), .string (twoT (n % 65536))] 9
  have hA := hidS (hL.out.alloc hL.out.size (.cells #[.string (twoT (n / 65536)), .string (twoT (n % 65536))] 9))
  have hj := joinTexts_any w2.heap.size [twoT (n / 65536), twoT (n % 65536)] _ (ValsAt.strs (ts := [twoT (n / 65536), twoT (n % 65536)]) hv) hv.1 (by simp) (by simp [twoT_size])
  have HJ := hidS hj
  clear hv hj hL
  go_wp2_with fail
  refine HJ.out.mono ?_
  rintro _ w3 ⟨rfl, hb3⟩
  have hE := hidS (hA.out.trans (hb3.mono hA.out.size))
  rw [cat2]
  clear hb3 hA HJ
  go_wp2_with fail
  go_ret
  exact ⟨rfl, hE.out⟩
end Go.Proofs.Ytokjhfgbnpdfnaf
