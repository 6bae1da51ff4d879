/- Proved here: impl.isError answers whether a packet tells an error; all old memory stays (no conditions). -/
import Derived.Test.YtbhemimhmkgfiaaDoorAll3
namespace Go.Proofs.YtbhemimhmkgfiaaDoor
open Go.ChangeShapes Go.WideShapes Go.ChangeAt Go.RowKit
set_option linter.unusedVariables false

theorem isError_any (p : Pk) (w : World) :
    Calls Tryd.prog 56 #[.agg #[.int .i64 p.src, .int .i64 p.dst, .int .i64 p.proto, .int .i64 p.a, .int .i64 p.b, .int .i64 p.kind, .int .i64 p.flags, .int .i64 p.seq, .int .i64 p.ack, .string p.body]] w fun e w' => e = .returned (.bool (p.proto == 1 && p.kind == 3)) ∧ Below w.heap.size w w' := by
  have HB := fun o => hidS ((Below.refl w.heap.size w).alloc (Nat.le_refl _) o)
  cases h1 : (p.proto == 1)
  · go_enter Tryd.func56, Tryd.ntmps56
    go_wp2
    go_ret
    exact ⟨rfl, (HB _).out⟩
  · go_enter Tryd.func56, Tryd.ntmps56
    go_wp2
    go_ret
    exact ⟨rfl, (HB _).out⟩

end Go.Proofs.YtbhemimhmkgfiaaDoor
