/- Proved here: which method of a part is called by its name (closed facts on the program's own table). -/
import Derived.Test.YtbhemimhmkgfiaaDoorRightParts
namespace Go.Proofs.YtbhemimhmkgfiaaDoor
open Go.ChangeShapes Go.WideShapes Go.ChangeAt Go.RowKit
set_option linter.unusedVariables false

theorem meth_tcp_right (v : Value) (W : World) : (method 273 87 v "loop.example/g00542/impl.right").run Tryd.prog W = .ok (110, v) W := by kernel_rfl
theorem meth_tcp_fields (v : Value) (W : World) : (method 273 87 v "loop.example/g00542/impl.fields").run Tryd.prog W = .ok (109, v) W := by kernel_rfl
theorem meth_udp_right (v : Value) (W : World) : (method 273 89 v "loop.example/g00542/impl.right").run Tryd.prog W = .ok (113, v) W := by kernel_rfl
theorem meth_udp_fields (v : Value) (W : World) : (method 273 89 v "loop.example/g00542/impl.fields").run Tryd.prog W = .ok (112, v) W := by kernel_rfl
theorem meth_err_right (v : Value) (W : World) : (method 273 91 v "loop.example/g00542/impl.right").run Tryd.prog W = .ok (116, v) W := by kernel_rfl
theorem meth_err_fields (v : Value) (W : World) : (method 273 91 v "loop.example/g00542/impl.fields").run Tryd.prog W = .ok (115, v) W := by kernel_rfl
theorem meth_echo_right (v : Value) (W : World) : (method 273 93 v "loop.example/g00542/impl.right").run Tryd.prog W = .ok (119, v) W := by kernel_rfl
theorem meth_echo_fields (v : Value) (W : World) : (method 273 93 v "loop.example/g00542/impl.fields").run Tryd.prog W = .ok (118, v) W := by kernel_rfl
theorem enter_tcp_right (v : Value) (W : World) : (callFunc 110 #[v]).run Tryd.prog W = .ok (.enter 110 #[v]) W := by kernel_rfl
theorem enter_tcp_fields (v : Value) (W : World) : (callFunc 109 #[v]).run Tryd.prog W = .ok (.enter 109 #[v]) W := by kernel_rfl
theorem enter_udp_right (v : Value) (W : World) : (callFunc 113 #[v]).run Tryd.prog W = .ok (.enter 113 #[v]) W := by kernel_rfl
theorem enter_udp_fields (v : Value) (W : World) : (callFunc 112 #[v]).run Tryd.prog W = .ok (.enter 112 #[v]) W := by kernel_rfl
theorem enter_err_right (v : Value) (W : World) : (callFunc 116 #[v]).run Tryd.prog W = .ok (.enter 116 #[v]) W := by kernel_rfl
theorem enter_err_fields (v : Value) (W : World) : (callFunc 115 #[v]).run Tryd.prog W = .ok (.enter 115 #[v]) W := by kernel_rfl
theorem enter_echo_right (v : Value) (W : World) : (callFunc 119 #[v]).run Tryd.prog W = .ok (.enter 119 #[v]) W := by kernel_rfl
theorem enter_echo_fields (v : Value) (W : World) : (callFunc 118 #[v]).run Tryd.prog W = .ok (.enter 118 #[v]) W := by kernel_rfl
end Go.Proofs.YtbhemimhmkgfiaaDoor
