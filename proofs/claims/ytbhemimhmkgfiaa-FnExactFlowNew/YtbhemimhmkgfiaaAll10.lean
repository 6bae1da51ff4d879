/- Proved here: the laws' own helpers on tuples: toTuple, and eqTuple of two that are the same; all old memory stays (no conditions). · Proved here: the laws' own eqTuple of two tuples that are the same; all old memory stays (no conditions). -/
import Derived.Test.YtbhemimhmkgfiaaAll6
import Derived.Test.YtbhemimhmkgfiaaAll3
import Derived.Test.YtbhemimhmkgfiaaAll5
section
namespace Go.Proofs.Ytbhemimhmkgfiaa
open Go.ChangeShapes Go.WideShapes Go.ChangeAt Go.RowKit
set_option linter.unusedVariables false

set_option maxHeartbeats 1000000 in
theorem toTuple_any (t : Tp) (w : World) :
    Calls Try.prog 12 #[.agg #[.int .i64 t.proto, .int .i64 t.src, .int .i64 t.sport, .int .i64 t.dst, .int .i64 t.dport, .int .i64 t.kind]] w fun e w' => e = .returned (.agg #[.int .i64 t.proto, .int .i64 t.src, .int .i64 t.sport, .int .i64 t.dst, .int .i64 t.dport, .int .i64 t.kind]) ∧ Below w.heap.size w w' := by
  go_enter Try.func12, Try.ntmps12
  go_wp2
  go_returns
  exact ⟨rfl, by go_grown⟩
end Go.Proofs.Ytbhemimhmkgfiaa
end

section
namespace Go.Proofs.Ytbhemimhmkgfiaa
open Go.ChangeShapes Go.WideShapes Go.ChangeAt Go.RowKit
set_option linter.unusedVariables false

set_option maxHeartbeats 1000000 in
theorem eqTuple_same (t : Tp) (w : World) :
    Calls Try.prog 57 #[.agg #[.int .i64 t.proto, .int .i64 t.src, .int .i64 t.sport, .int .i64 t.dst, .int .i64 t.dport, .int .i64 t.kind], .agg #[.int .i64 t.proto, .int .i64 t.src, .int .i64 t.sport, .int .i64 t.dst, .int .i64 t.dport, .int .i64 t.kind]] w fun e w' => e = .returned (.bool true) ∧ Below w.heap.size w w' := by
  go_enter Try.func57, Try.ntmps57
  go_wp2
  go_ret
  exact ⟨rfl, by go_grown⟩
end Go.Proofs.Ytbhemimhmkgfiaa
end
