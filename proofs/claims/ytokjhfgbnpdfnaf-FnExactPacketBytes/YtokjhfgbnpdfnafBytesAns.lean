/- Proved here: spec.PacketBytes answers a right packet's bytes (else the empty text); all old memory stays (condition: the body is a string). -/
import Derived.Test.YtokjhfgbnpdfnafBytes3
import Derived.Test.YtokjhfgbnpdfnafRightSpec
namespace Go.Proofs.Ytokjhfgbnpdfnaf
open Go.ChangeShapes Go.WideShapes Go.ChangeAt Go.RowKit
set_option linter.unusedVariables false
set_option maxRecDepth 100000


theorem specBytes_any (p : Pk) (w : World) (hs : p.body.size ≤ maxLen) :
    Calls Try.prog 15 #[.agg #[.int .i64 p.src, .int .i64 p.dst, .int .i64 p.proto, .int .i64 p.a, .int .i64 p.b, .int .i64 p.kind, .int .i64 p.flags, .int .i64 p.seq, .int .i64 p.ack, .string p.body]] w fun e w' => e = .returned (.string (bytesAns p)) ∧ Below w.heap.size w w' := by
  have hB1 := hidS ((Below.refl w.heap.size w).alloc (Nat.le_refl _) (.cells #[.int .i64 p.src, .int .i64 p.dst, .int .i64 p.proto, .int .i64 p.a, .int .i64 p.b, .int .i64 p.kind, .int .i64 p.flags, .int .i64 p.seq, .int .i64 p.ack, .string p.body] 30))
  have HP := hidS (PkAt.new p w)
  go_enter Try.func15, Try.ntmps15
  go_wp2_with fail
  refine (specRight_any p _ hs).mono ?_
  rintro e w2 ⟨rfl, hb2⟩
  have HP2 := HP.out.later hb2
  have hB2 := hidS (hB1.out.trans (hb2.mono hB1.out.size))
  clear hB1 HP hb2
  obtain ⟨c0, c1, c2, c3, c4, c5, c6, c7, c8, c9⟩ := HP2
  cases hr : rightB p
  · have e : Hid (bytesAns p = ⟨#[]⟩) := if_neg (by rw [hr]; simp)
    go_wp2
    go_ret
    exact ⟨by rw [e.out]; rfl, hB2.out⟩
  · have e : Hid (bytesAns p = bytesOf p) := if_pos hr
    have hF := hidS (fine_of hr)
    go_wp2_with fail
    refine (l03Bytes_any p _ hF.out).mono ?_
    rintro _ w3 ⟨rfl, hb3⟩
    have hB3 := hidS (hB2.out.trans (hb3.mono hB2.out.size))
    go_wp2
    go_ret
    exact ⟨by rw [e.out]; rfl, hB3.out⟩
end Go.Proofs.Ytokjhfgbnpdfnaf
