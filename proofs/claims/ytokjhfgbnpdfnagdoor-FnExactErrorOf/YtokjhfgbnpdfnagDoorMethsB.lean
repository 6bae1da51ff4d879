/- Proved here: which method 'bytes' of a part is called by its name (closed facts on the program's own table). -/
import Derived.Test.YtokjhfgbnpdfnagDoorAll16
namespace Go.Proofs.YtokjhfgbnpdfnagDoor
open Go.ChangeShapes Go.WideShapes Go.ChangeAt Go.RowKit
set_option linter.unusedVariables false

theorem meth_tcp_bytes (v : Value) (W : World) : (method 297 106 v "loop.example/g00542/impl.bytes").run Tryd.prog W = .ok (137, v) W := by kernel_rfl
theorem enter_tcp_bytes (v : Value) (W : World) : (callFunc 137 #[v]).run Tryd.prog W = .ok (.enter 137 #[v]) W := by kernel_rfl
theorem meth_udp_bytes (v : Value) (W : World) : (method 297 108 v "loop.example/g00542/impl.bytes").run Tryd.prog W = .ok (140, v) W := by kernel_rfl
theorem enter_udp_bytes (v : Value) (W : World) : (callFunc 140 #[v]).run Tryd.prog W = .ok (.enter 140 #[v]) W := by kernel_rfl
theorem meth_err_bytes (v : Value) (W : World) : (method 297 110 v "loop.example/g00542/impl.bytes").run Tryd.prog W = .ok (143, v) W := by kernel_rfl
theorem enter_err_bytes (v : Value) (W : World) : (callFunc 143 #[v]).run Tryd.prog W = .ok (.enter 143 #[v]) W := by kernel_rfl
theorem meth_echo_bytes (v : Value) (W : World) : (method 297 112 v "loop.example/g00542/impl.bytes").run Tryd.prog W = .ok (146, v) W := by kernel_rfl
theorem enter_echo_bytes (v : Value) (W : World) : (callFunc 146 #[v]).run Tryd.prog W = .ok (.enter 146 #[v]) W := by kernel_rfl
end Go.Proofs.YtokjhfgbnpdfnagDoor
