/- Proved here: spec.l04Error answers whether a packet tells an error; all old memory stays (no conditions). -/
import Derived.Test.YtbhemimhmkgfiaaDoorAll7
import Derived.Test.YtbhemimhmkgfiaaDoorAll3
namespace Go.Proofs.YtbhemimhmkgfiaaDoor
open Go.ChangeShapes Go.WideShapes Go.ChangeAt Go.RowKit
set_option linter.unusedVariables false

theorem l04Error_any (p : Pk) (w : World) :
    Calls Tryd.prog 36 #[.agg #[.int .i64 p.src, .int .i64 p.dst, .int .i64 p.proto, .int .i64 p.a, .int .i64 p.b, .int .i64 p.kind, .int .i64 p.flags, .int .i64 p.seq, .int .i64 p.ack, .string p.body]] w fun e w' => e = .returned (.bool (errorB p)) ∧ Below w.heap.size w w' := by
  have HB := fun o => hidS ((Below.refl w.heap.size w).alloc (Nat.le_refl _) o)
  unfold errorB
  cases h1 : (p.proto == 1)
  · go_enter Tryd.func36, Tryd.ntmps36
    go_wp2
    go_ret
    exact ⟨rfl, (HB _).out⟩
  · go_enter Tryd.func36, Tryd.ntmps36
    go_wp2
    go_ret
    exact ⟨rfl, (HB _).out⟩
end Go.Proofs.YtbhemimhmkgfiaaDoor
