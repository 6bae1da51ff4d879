/- Proved here: which method 'bytes' of a part is called by its name (closed facts on the program's own table). -/
import Derived.Test.YtokjhfgbnpdfnafDoorAll9
namespace Go.Proofs.YtokjhfgbnpdfnafDoor
open Go.ChangeShapes Go.WideShapes Go.ChangeAt Go.RowKit
set_option linter.unusedVariables false

theorem meth_tcp_bytes (v : Value) (W : World) : (method 262 78 v "loop.example/g00542/impl.bytes").run Tryd.prog W = .ok (96, v) W := by kernel_rfl
theorem enter_tcp_bytes (v : Value) (W : World) : (callFunc 96 #[v]).run Tryd.prog W = .ok (.enter 96 #[v]) W := by kernel_rfl
theorem meth_udp_bytes (v : Value) (W : World) : (method 262 80 v "loop.example/g00542/impl.bytes").run Tryd.prog W = .ok (99, v) W := by kernel_rfl
theorem enter_udp_bytes (v : Value) (W : World) : (callFunc 99 #[v]).run Tryd.prog W = .ok (.enter 99 #[v]) W := by kernel_rfl
theorem meth_err_bytes (v : Value) (W : World) : (method 262 82 v "loop.example/g00542/impl.bytes").run Tryd.prog W = .ok (102, v) W := by kernel_rfl
theorem enter_err_bytes (v : Value) (W : World) : (callFunc 102 #[v]).run Tryd.prog W = .ok (.enter 102 #[v]) W := by kernel_rfl
theorem meth_echo_bytes (v : Value) (W : World) : (method 262 84 v "loop.example/g00542/impl.bytes").run Tryd.prog W = .ok (105, v) W := by kernel_rfl
theorem enter_echo_bytes (v : Value) (W : World) : (callFunc 105 #[v]).run Tryd.prog W = .ok (.enter 105 #[v]) W := by kernel_rfl
end Go.Proofs.YtokjhfgbnpdfnafDoor
