/- Proved here: impl.checkAt answers the place of a part's check (of each kind of part, and of none); nothing changes (no conditions). -/
import Derived.Test.YtedknnkdnccfmaaGreatDoorAll24
import Derived.Test.YtedknnkdnccfmaaGreatDoorAll31
namespace Go.Proofs.YtedknnkdnccfmaaGreatDoor
open Go.ChangeShapes Go.WideShapes Go.ChangeAt Go.RowKit
open Go.ChangeMaps (open_string shut_string)
set_option linter.unusedVariables false
set_option maxRecDepth 100000

theorem as_tcp_tcp (v : Value) (W : World) : (Instr.typeAssert (.iface 109 v) 59 109 true).run Tryz.prog W = .ok (.tuple #[v, .bool true]) W := by kernel_rfl
theorem as_tcp_udp (v : Value) (W : World) : (Instr.typeAssert (.iface 109 v) 59 111 true).run Tryz.prog W = .ok (.tuple #[.agg #[.int .i64 0, .int .i64 0, .string ⟨#[]⟩], .bool false]) W := by kernel_rfl
theorem as_udp_tcp (v : Value) (W : World) : (Instr.typeAssert (.iface 111 v) 59 109 true).run Tryz.prog W = .ok (.tuple #[.agg #[.int .i64 0, .int .i64 0, .int .i64 0, .int .i64 0, .int .i64 0, .string ⟨#[]⟩], .bool false]) W := by kernel_rfl
theorem as_udp_udp (v : Value) (W : World) : (Instr.typeAssert (.iface 111 v) 59 111 true).run Tryz.prog W = .ok (.tuple #[v, .bool true]) W := by kernel_rfl
theorem as_err_tcp (v : Value) (W : World) : (Instr.typeAssert (.iface 113 v) 59 109 true).run Tryz.prog W = .ok (.tuple #[.agg #[.int .i64 0, .int .i64 0, .int .i64 0, .int .i64 0, .int .i64 0, .string ⟨#[]⟩], .bool false]) W := by kernel_rfl
theorem as_err_udp (v : Value) (W : World) : (Instr.typeAssert (.iface 113 v) 59 111 true).run Tryz.prog W = .ok (.tuple #[.agg #[.int .i64 0, .int .i64 0, .string ⟨#[]⟩], .bool false]) W := by kernel_rfl
theorem as_echo_tcp (v : Value) (W : World) : (Instr.typeAssert (.iface 115 v) 59 109 true).run Tryz.prog W = .ok (.tuple #[.agg #[.int .i64 0, .int .i64 0, .int .i64 0, .int .i64 0, .int .i64 0, .string ⟨#[]⟩], .bool false]) W := by kernel_rfl
theorem as_echo_udp (v : Value) (W : World) : (Instr.typeAssert (.iface 115 v) 59 111 true).run Tryz.prog W = .ok (.tuple #[.agg #[.int .i64 0, .int .i64 0, .string ⟨#[]⟩], .bool false]) W := by kernel_rfl
theorem as_none_tcp (W : World) : (Instr.typeAssert .nilIface 59 109 true).run Tryz.prog W = .ok (.tuple #[.agg #[.int .i64 0, .int .i64 0, .int .i64 0, .int .i64 0, .int .i64 0, .string ⟨#[]⟩], .bool false]) W := by kernel_rfl
theorem as_none_udp (W : World) : (Instr.typeAssert .nilIface 59 111 true).run Tryz.prog W = .ok (.tuple #[.agg #[.int .i64 0, .int .i64 0, .string ⟨#[]⟩], .bool false]) W := by kernel_rfl
theorem checkAt_tcp (v : Value) (w : World) :
    Calls Tryz.prog 46 #[.iface 109 v] w fun e w' => e = .returned (.int .i64 36) ∧ Below w.heap.size w w' := by
  have h1 := as_tcp_tcp v
  have h2 := as_tcp_udp v
  go_enter Tryz.func46, Tryz.ntmps46
  go_wp2
  go_ret
  exact ⟨rfl, Below.refl _ _⟩
theorem checkAt_udp (v : Value) (w : World) :
    Calls Tryz.prog 46 #[.iface 111 v] w fun e w' => e = .returned (.int .i64 26) ∧ Below w.heap.size w w' := by
  have h1 := as_udp_tcp v
  have h2 := as_udp_udp v
  go_enter Tryz.func46, Tryz.ntmps46
  go_wp2
  go_ret
  exact ⟨rfl, Below.refl _ _⟩
theorem checkAt_err (v : Value) (w : World) :
    Calls Tryz.prog 46 #[.iface 113 v] w fun e w' => e = .returned (.int .i64 22) ∧ Below w.heap.size w w' := by
  have h1 := as_err_tcp v
  have h2 := as_err_udp v
  go_enter Tryz.func46, Tryz.ntmps46
  go_wp2
  go_ret
  exact ⟨rfl, Below.refl _ _⟩
theorem checkAt_echo (v : Value) (w : World) :
    Calls Tryz.prog 46 #[.iface 115 v] w fun e w' => e = .returned (.int .i64 22) ∧ Below w.heap.size w w' := by
  have h1 := as_echo_tcp v
  have h2 := as_echo_udp v
  go_enter Tryz.func46, Tryz.ntmps46
  go_wp2
  go_ret
  exact ⟨rfl, Below.refl _ _⟩
theorem checkAt_none (w : World) :
    Calls Tryz.prog 46 #[.nilIface] w fun e w' => e = .returned (.int .i64 22) ∧ Below w.heap.size w w' := by
  have h1 := as_none_tcp
  have h2 := as_none_udp
  go_enter Tryz.func46, Tryz.ntmps46
  go_wp2
  go_ret
  exact ⟨rfl, Below.refl _ _⟩
end Go.Proofs.YtedknnkdnccfmaaGreatDoor
