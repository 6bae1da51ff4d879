/- Proved here: the laws' own helpers on packets: szPacket and toPacket; all old memory stays (condition: the body is a string). -/
import Derived.Test.YtokjhfgbnpdfnafPacketMath
import Derived.Test.YtokjhfgbnpdfnafWordsH
import Derived.Test.YtokjhfgbnpdfnafBlk
namespace Go.Proofs.Ytokjhfgbnpdfnaf
open Go.ChangeShapes Go.WideShapes Go.ChangeAt Go.RowKit
set_option linter.unusedVariables false

theorem szPacket_any (p : Pk) (n : Nat) (w : World) (hn : n ≤ 1048576) (hs : p.body.size ≤ maxLen) :
    Calls Try.prog 11 #[.agg #[.int .i64 p.src, .int .i64 p.dst, .int .i64 p.proto, .int .i64 p.a, .int .i64 p.b, .int .i64 p.kind, .int .i64 p.flags, .int .i64 p.seq, .int .i64 p.ack, .string p.body], .int .i64 (n : Int)] w fun e w' => e = .returned (.int .i64 (if (n : Int) < (p.body.size : Int) then -1 else (n : Int) - (p.body.size : Int))) ∧ Below w.heap.size w w' := by
  have hs' : p.body.size ≤ 2 ^ 63 - 1 := hs
  have HB := fun o => hidS ((Below.refl w.heap.size w).alloc (Nat.le_refl _) o)
  by_cases h : (n : Int) < (p.body.size : Int)
  · rw [if_pos h]
    have h' : (n : Int) - (p.body.size : Int) < 0 := by omega
    go_enter Try.func11, Try.ntmps11
    go_wp2
    go_ret
    exact ⟨rfl, (HB _).out⟩
  · rw [if_neg h]
    have h' : ¬ (n : Int) - (p.body.size : Int) < 0 := by omega
    go_enter Try.func11, Try.ntmps11
    go_wp2
    go_ret
    exact ⟨rfl, (HB _).out⟩

theorem szPacket_big (p : Pk) (w : World) (hs : p.body.size ≤ maxLen) (h : 1048576 < p.body.size) :
    Calls Try.prog 11 #[.agg #[.int .i64 p.src, .int .i64 p.dst, .int .i64 p.proto, .int .i64 p.a, .int .i64 p.b, .int .i64 p.kind, .int .i64 p.flags, .int .i64 p.seq, .int .i64 p.ack, .string p.body], .int .i64 1048576] w fun e w' => e = .returned (.int .i64 (-1)) ∧ Below w.heap.size w w' := by
  have := szPacket_any p 1048576 w (by omega) hs
  rw [if_pos (by omega)] at this
  exact this
theorem szPacket_ok (p : Pk) (w : World) (hs : p.body.size ≤ maxLen) (h : ¬ 1048576 < p.body.size) :
    Calls Try.prog 11 #[.agg #[.int .i64 p.src, .int .i64 p.dst, .int .i64 p.proto, .int .i64 p.a, .int .i64 p.b, .int .i64 p.kind, .int .i64 p.flags, .int .i64 p.seq, .int .i64 p.ack, .string p.body], .int .i64 1048576] w fun e w' => e = .returned (.int .i64 (1048576 - (p.body.size : Int))) ∧ Below w.heap.size w w' := by
  have := szPacket_any p 1048576 w (by omega) hs
  rw [if_neg (by omega)] at this
  exact this

set_option maxHeartbeats 1000000 in
theorem toPacket_any (p : Pk) (w : World) :
    Calls Try.prog 13 #[.agg #[.int .i64 p.src, .int .i64 p.dst, .int .i64 p.proto, .int .i64 p.a, .int .i64 p.b, .int .i64 p.kind, .int .i64 p.flags, .int .i64 p.seq, .int .i64 p.ack, .string p.body]] w fun e w' => e = .returned (.agg #[.int .i64 p.src, .int .i64 p.dst, .int .i64 p.proto, .int .i64 p.a, .int .i64 p.b, .int .i64 p.kind, .int .i64 p.flags, .int .i64 p.seq, .int .i64 p.ack, .string p.body]) ∧ Below w.heap.size w w' := by
  go_enter Try.func13, Try.ntmps13
  go_wp2
  go_returns
  exact ⟨rfl, by go_grown⟩

end Go.Proofs.Ytokjhfgbnpdfnaf
