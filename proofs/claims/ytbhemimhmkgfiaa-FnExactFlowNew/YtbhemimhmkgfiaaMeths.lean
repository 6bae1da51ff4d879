/- Proved here: which method of a part is called by its name (closed facts on the program's own table). -/
import Derived.Test.YtbhemimhmkgfiaaRightParts
namespace Go.Proofs.Ytbhemimhmkgfiaa
open Go.ChangeShapes Go.WideShapes Go.ChangeAt Go.RowKit
set_option linter.unusedVariables false

theorem meth_tcp_right (v : Value) (W : World) : (method 209 84 v "loop.example/g00542/impl.right").run Try.prog W = .ok (97, v) W := by kernel_rfl
theorem meth_tcp_fields (v : Value) (W : World) : (method 209 84 v "loop.example/g00542/impl.fields").run Try.prog W = .ok (96, v) W := by kernel_rfl
theorem meth_udp_right (v : Value) (W : World) : (method 209 86 v "loop.example/g00542/impl.right").run Try.prog W = .ok (100, v) W := by kernel_rfl
theorem meth_udp_fields (v : Value) (W : World) : (method 209 86 v "loop.example/g00542/impl.fields").run Try.prog W = .ok (99, v) W := by kernel_rfl
theorem meth_err_right (v : Value) (W : World) : (method 209 88 v "loop.example/g00542/impl.right").run Try.prog W = .ok (103, v) W := by kernel_rfl
theorem meth_err_fields (v : Value) (W : World) : (method 209 88 v "loop.example/g00542/impl.fields").run Try.prog W = .ok (102, v) W := by kernel_rfl
theorem meth_echo_right (v : Value) (W : World) : (method 209 90 v "loop.example/g00542/impl.right").run Try.prog W = .ok (106, v) W := by kernel_rfl
theorem meth_echo_fields (v : Value) (W : World) : (method 209 90 v "loop.example/g00542/impl.fields").run Try.prog W = .ok (105, v) W := by kernel_rfl
theorem enter_tcp_right (v : Value) (W : World) : (callFunc 97 #[v]).run Try.prog W = .ok (.enter 97 #[v]) W := by kernel_rfl
theorem enter_tcp_fields (v : Value) (W : World) : (callFunc 96 #[v]).run Try.prog W = .ok (.enter 96 #[v]) W := by kernel_rfl
theorem enter_udp_right (v : Value) (W : World) : (callFunc 100 #[v]).run Try.prog W = .ok (.enter 100 #[v]) W := by kernel_rfl
theorem enter_udp_fields (v : Value) (W : World) : (callFunc 99 #[v]).run Try.prog W = .ok (.enter 99 #[v]) W := by kernel_rfl
theorem enter_err_right (v : Value) (W : World) : (callFunc 103 #[v]).run Try.prog W = .ok (.enter 103 #[v]) W := by kernel_rfl
theorem enter_err_fields (v : Value) (W : World) : (callFunc 102 #[v]).run Try.prog W = .ok (.enter 102 #[v]) W := by kernel_rfl
theorem enter_echo_right (v : Value) (W : World) : (callFunc 106 #[v]).run Try.prog W = .ok (.enter 106 #[v]) W := by kernel_rfl
theorem enter_echo_fields (v : Value) (W : World) : (callFunc 105 #[v]).run Try.prog W = .ok (.enter 105 #[v]) W := by kernel_rfl
end Go.Proofs.Ytbhemimhmkgfiaa
