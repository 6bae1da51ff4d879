/- Proved here: the laws' own helpers on rules: toRule, and eqRule of two that are the same; all old memory stays (no conditions). -/
import Derived.Test.YtfnpobhjkmkepaaRuleMath
import Derived.Test.YtfnpobhjkmkepaaWordsH
import Derived.Test.YtfnpobhjkmkepaaBlk
namespace Go.Proofs.Ytfnpobhjkmkepaa
open Go.ChangeShapes Go.WideShapes Go.ChangeAt Go.RowKit
set_option linter.unusedVariables false

set_option maxHeartbeats 1000000 in
theorem toRule_any (r : Rl) (w : World) :
    Calls Try.prog 9 #[.agg #[.int .i64 r.kind, .int .i64 r.proto, .int .i64 r.net, .int .i64 r.bits, .int .i64 r.goal, .int .i64 r.low, .int .i64 r.high]] w fun e w' => e = .returned (.agg #[.int .i64 r.kind, .int .i64 r.proto, .int .i64 r.net, .int .i64 r.bits, .int .i64 r.goal, .int .i64 r.low, .int .i64 r.high]) ∧ Below w.heap.size w w' := by
  go_enter Try.func9, Try.ntmps9
  go_wp2
  exact bodyPost_ret (v := .agg #[.int .i64 r.kind, .int .i64 r.proto, .int .i64 r.net, .int .i64 r.bits, .int .i64 r.goal, .int .i64 r.low, .int .i64 r.high]) (by simp [results, Try.results9, go_sem]) rfl ⟨rfl, by go_grown⟩
end Go.Proofs.Ytfnpobhjkmkepaa
