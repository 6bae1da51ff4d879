/- Proved here: which method of a part is called by its name (closed facts on the program's own table). -/
import Derived.Test.YtokjhfgbnpdfnahDoorRightParts
namespace Go.Proofs.YtokjhfgbnpdfnahDoor
open Go.ChangeShapes Go.WideShapes Go.ChangeAt Go.RowKit
set_option linter.unusedVariables false

theorem meth_tcp_right (v : Value) (W : World) : (method 259 94 v "loop.example/g00542/impl.right").run Tryd.prog W = .ok (92, v) W := by kernel_rfl
theorem meth_tcp_fields (v : Value) (W : World) : (method 259 94 v "loop.example/g00542/impl.fields").run Tryd.prog W = .ok (91, v) W := by kernel_rfl
theorem meth_udp_right (v : Value) (W : World) : (method 259 96 v "loop.example/g00542/impl.right").run Tryd.prog W = .ok (95, v) W := by kernel_rfl
theorem meth_udp_fields (v : Value) (W : World) : (method 259 96 v "loop.example/g00542/impl.fields").run Tryd.prog W = .ok (94, v) W := by kernel_rfl
theorem meth_err_right (v : Value) (W : World) : (method 259 98 v "loop.example/g00542/impl.right").run Tryd.prog W = .ok (98, v) W := by kernel_rfl
theorem meth_err_fields (v : Value) (W : World) : (method 259 98 v "loop.example/g00542/impl.fields").run Tryd.prog W = .ok (97, v) W := by kernel_rfl
theorem meth_echo_right (v : Value) (W : World) : (method 259 100 v "loop.example/g00542/impl.right").run Tryd.prog W = .ok (101, v) W := by kernel_rfl
theorem meth_echo_fields (v : Value) (W : World) : (method 259 100 v "loop.example/g00542/impl.fields").run Tryd.prog W = .ok (100, v) W := by kernel_rfl
theorem enter_tcp_right (v : Value) (W : World) : (callFunc 92 #[v]).run Tryd.prog W = .ok (.enter 92 #[v]) W := by kernel_rfl
theorem enter_tcp_fields (v : Value) (W : World) : (callFunc 91 #[v]).run Tryd.prog W = .ok (.enter 91 #[v]) W := by kernel_rfl
theorem enter_udp_right (v : Value) (W : World) : (callFunc 95 #[v]).run Tryd.prog W = .ok (.enter 95 #[v]) W := by kernel_rfl
theorem enter_udp_fields (v : Value) (W : World) : (callFunc 94 #[v]).run Tryd.prog W = .ok (.enter 94 #[v]) W := by kernel_rfl
theorem enter_err_right (v : Value) (W : World) : (callFunc 98 #[v]).run Tryd.prog W = .ok (.enter 98 #[v]) W := by kernel_rfl
theorem enter_err_fields (v : Value) (W : World) : (callFunc 97 #[v]).run Tryd.prog W = .ok (.enter 97 #[v]) W := by kernel_rfl
theorem enter_echo_right (v : Value) (W : World) : (callFunc 101 #[v]).run Tryd.prog W = .ok (.enter 101 #[v]) W := by kernel_rfl
theorem enter_echo_fields (v : Value) (W : World) : (callFunc 100 #[v]).run Tryd.prog W = .ok (.enter 100 #[v]) W := by kernel_rfl
end Go.Proofs.YtokjhfgbnpdfnahDoor
