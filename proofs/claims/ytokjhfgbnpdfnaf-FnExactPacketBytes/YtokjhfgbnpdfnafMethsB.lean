/- Proved here: which method 'bytes' of a part is called by its name (closed facts on the program's own table). -/
import Derived.Test.YtokjhfgbnpdfnafRightParts
namespace Go.Proofs.Ytokjhfgbnpdfnaf
open Go.ChangeShapes Go.WideShapes Go.ChangeAt Go.RowKit
set_option linter.unusedVariables false

theorem meth_tcp_bytes (v : Value) (W : World) : (method 185 53 v "loop.example/g00542/impl.bytes").run Try.prog W = .ok (59, v) W := by kernel_rfl
theorem enter_tcp_bytes (v : Value) (W : World) : (callFunc 59 #[v]).run Try.prog W = .ok (.enter 59 #[v]) W := by kernel_rfl
theorem meth_udp_bytes (v : Value) (W : World) : (method 185 55 v "loop.example/g00542/impl.bytes").run Try.prog W = .ok (62, v) W := by kernel_rfl
theorem enter_udp_bytes (v : Value) (W : World) : (callFunc 62 #[v]).run Try.prog W = .ok (.enter 62 #[v]) W := by kernel_rfl
theorem meth_err_bytes (v : Value) (W : World) : (method 185 57 v "loop.example/g00542/impl.bytes").run Try.prog W = .ok (65, v) W := by kernel_rfl
theorem enter_err_bytes (v : Value) (W : World) : (callFunc 65 #[v]).run Try.prog W = .ok (.enter 65 #[v]) W := by kernel_rfl
theorem meth_echo_bytes (v : Value) (W : World) : (method 185 59 v "loop.example/g00542/impl.bytes").run Try.prog W = .ok (68, v) W := by kernel_rfl
theorem enter_echo_bytes (v : Value) (W : World) : (callFunc 68 #[v]).run Try.prog W = .ok (.enter 68 #[v]) W := by kernel_rfl
end Go.Proofs.Ytokjhfgbnpdfnaf
