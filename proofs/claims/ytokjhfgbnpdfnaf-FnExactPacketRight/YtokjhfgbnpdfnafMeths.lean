/- Proved here: which method of a part is called by its name (closed facts on the program's own table). -/
import Derived.Test.YtokjhfgbnpdfnafRightParts
namespace Go.Proofs.Ytokjhfgbnpdfnaf
open Go.ChangeShapes Go.WideShapes Go.ChangeAt Go.RowKit
set_option linter.unusedVariables false

theorem meth_tcp_right (v : Value) (W : World) : (method 185 53 v "loop.example/g00542/impl.right").run Try.prog W = .ok (61, v) W := by kernel_rfl
theorem meth_tcp_fields (v : Value) (W : World) : (method 185 53 v "loop.example/g00542/impl.fields").run Try.prog W = .ok (60, v) W := by kernel_rfl
theorem meth_udp_right (v : Value) (W : World) : (method 185 55 v "loop.example/g00542/impl.right").run Try.prog W = .ok (64, v) W := by kernel_rfl
theorem meth_udp_fields (v : Value) (W : World) : (method 185 55 v "loop.example/g00542/impl.fields").run Try.prog W = .ok (63, v) W := by kernel_rfl
theorem meth_err_right (v : Value) (W : World) : (method 185 57 v "loop.example/g00542/impl.right").run Try.prog W = .ok (67, v) W := by kernel_rfl
theorem meth_err_fields (v : Value) (W : World) : (method 185 57 v "loop.example/g00542/impl.fields").run Try.prog W = .ok (66, v) W := by kernel_rfl
theorem meth_echo_right (v : Value) (W : World) : (method 185 59 v "loop.example/g00542/impl.right").run Try.prog W = .ok (70, v) W := by kernel_rfl
theorem meth_echo_fields (v : Value) (W : World) : (method 185 59 v "loop.example/g00542/impl.fields").run Try.prog W = .ok (69, v) W := by kernel_rfl
theorem enter_tcp_right (v : Value) (W : World) : (callFunc 61 #[v]).run Try.prog W = .ok (.enter 61 #[v]) W := by kernel_rfl
theorem enter_tcp_fields (v : Value) (W : World) : (callFunc 60 #[v]).run Try.prog W = .ok (.enter 60 #[v]) W := by kernel_rfl
theorem enter_udp_right (v : Value) (W : World) : (callFunc 64 #[v]).run Try.prog W = .ok (.enter 64 #[v]) W := by kernel_rfl
theorem enter_udp_fields (v : Value) (W : World) : (callFunc 63 #[v]).run Try.prog W = .ok (.enter 63 #[v]) W := by kernel_rfl
theorem enter_err_right (v : Value) (W : World) : (callFunc 67 #[v]).run Try.prog W = .ok (.enter 67 #[v]) W := by kernel_rfl
theorem enter_err_fields (v : Value) (W : World) : (callFunc 66 #[v]).run Try.prog W = .ok (.enter 66 #[v]) W := by kernel_rfl
theorem enter_echo_right (v : Value) (W : World) : (callFunc 70 #[v]).run Try.prog W = .ok (.enter 70 #[v]) W := by kernel_rfl
theorem enter_echo_fields (v : Value) (W : World) : (callFunc 69 #[v]).run Try.prog W = .ok (.enter 69 #[v]) W := by kernel_rfl
end Go.Proofs.Ytokjhfgbnpdfnaf
