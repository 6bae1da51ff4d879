/- Proved here: the laws' own helpers on tuples: toTuple, and eqTuple of two that are the same; all old memory stays (no conditions). -/
import Derived.Test.YtbhemimhmkgfiaaDoorTupMath
import Derived.Test.YtbhemimhmkgfiaaDoorWordsH
import Derived.Test.YtbhemimhmkgfiaaDoorBlk
namespace Go.Proofs.YtbhemimhmkgfiaaDoor
open Go.ChangeShapes Go.WideShapes Go.ChangeAt Go.RowKit
set_option linter.unusedVariables false

set_option maxHeartbeats 1000000 in
theorem toTuple_any (t : Tp) (w : World) :
    Calls Tryd.prog 19 #[.agg #[.int .i64 t.proto, .int .i64 t.src, .int .i64 t.sport, .int .i64 t.dst, .int .i64 t.dport, .int .i64 t.kind]] w fun e w' => e = .returned (.agg #[.int .i64 t.proto, .int .i64 t.src, .int .i64 t.sport, .int .i64 t.dst, .int .i64 t.dport, .int .i64 t.kind]) ∧ Below w.heap.size w w' := by
  go_enter Tryd.func19, Tryd.ntmps19
  go_wp2
  go_returns
  exact ⟨rfl, by go_grown⟩
end Go.Proofs.YtbhemimhmkgfiaaDoor
