/- Proved here: which method of a part is called by its name (closed facts on the program's own table). -/
import Derived.Test.YtokjhfgbnpdfnagRightParts
namespace Go.Proofs.Ytokjhfgbnpdfnag
open Go.ChangeShapes Go.WideShapes Go.ChangeAt Go.RowKit
set_option linter.unusedVariables false

theorem meth_tcp_right (v : Value) (W : World) : (method 173 49 v "loop.example/g00542/impl.right").run Try.prog W = .ok (47, v) W := by kernel_rfl
theorem meth_tcp_fields (v : Value) (W : World) : (method 173 49 v "loop.example/g00542/impl.fields").run Try.prog W = .ok (46, v) W := by kernel_rfl
theorem meth_udp_right (v : Value) (W : World) : (method 173 51 v "loop.example/g00542/impl.right").run Try.prog W = .ok (50, v) W := by kernel_rfl
theorem meth_udp_fields (v : Value) (W : World) : (method 173 51 v "loop.example/g00542/impl.fields").run Try.prog W = .ok (49, v) W := by kernel_rfl
theorem meth_err_right (v : Value) (W : World) : (method 173 53 v "loop.example/g00542/impl.right").run Try.prog W = .ok (53, v) W := by kernel_rfl
theorem meth_err_fields (v : Value) (W : World) : (method 173 53 v "loop.example/g00542/impl.fields").run Try.prog W = .ok (52, v) W := by kernel_rfl
theorem meth_echo_right (v : Value) (W : World) : (method 173 55 v "loop.example/g00542/impl.right").run Try.prog W = .ok (56, v) W := by kernel_rfl
theorem meth_echo_fields (v : Value) (W : World) : (method 173 55 v "loop.example/g00542/impl.fields").run Try.prog W = .ok (55, v) W := by kernel_rfl
theorem enter_tcp_right (v : Value) (W : World) : (callFunc 47 #[v]).run Try.prog W = .ok (.enter 47 #[v]) W := by kernel_rfl
theorem enter_tcp_fields (v : Value) (W : World) : (callFunc 46 #[v]).run Try.prog W = .ok (.enter 46 #[v]) W := by kernel_rfl
theorem enter_udp_right (v : Value) (W : World) : (callFunc 50 #[v]).run Try.prog W = .ok (.enter 50 #[v]) W := by kernel_rfl
theorem enter_udp_fields (v : Value) (W : World) : (callFunc 49 #[v]).run Try.prog W = .ok (.enter 49 #[v]) W := by kernel_rfl
theorem enter_err_right (v : Value) (W : World) : (callFunc 53 #[v]).run Try.prog W = .ok (.enter 53 #[v]) W := by kernel_rfl
theorem enter_err_fields (v : Value) (W : World) : (callFunc 52 #[v]).run Try.prog W = .ok (.enter 52 #[v]) W := by kernel_rfl
theorem enter_echo_right (v : Value) (W : World) : (callFunc 56 #[v]).run Try.prog W = .ok (.enter 56 #[v]) W := by kernel_rfl
theorem enter_echo_fields (v : Value) (W : World) : (callFunc 55 #[v]).run Try.prog W = .ok (.enter 55 #[v]) W := by kernel_rfl
end Go.Proofs.Ytokjhfgbnpdfnag
