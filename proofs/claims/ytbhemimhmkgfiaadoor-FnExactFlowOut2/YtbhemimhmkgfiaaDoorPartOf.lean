/- Proved here: impl.partOf answers what stands behind a packet's head, by its Proto; all old memory stays (no conditions). -/
import Derived.Test.YtbhemimhmkgfiaaDoorAll3
namespace Go.Proofs.YtbhemimhmkgfiaaDoor
open Go.ChangeShapes Go.WideShapes Go.ChangeAt Go.RowKit
open Go.ChangeMaps (open_string shut_string)
set_option linter.unusedVariables false

/-- what partOf answers -/
def tcpV (p : Pk) : Value := .iface 87 (.agg #[.int .i64 p.a, .int .i64 p.b, .int .i64 p.seq, .int .i64 p.ack, .int .i64 p.flags, .string p.body])
def udpV (p : Pk) : Value := .iface 89 (.agg #[.int .i64 p.a, .int .i64 p.b, .string p.body])
def errV (p : Pk) : Value := .iface 91 (.agg #[.string p.body])
def echoV (p : Pk) : Value := .iface 93 (.agg #[.int .i64 p.kind, .int .i64 p.a, .int .i64 p.seq, .string p.body])

theorem partOf_tcp (p : Pk) (w : World) (h6 : p.proto = 6) :
    Calls Tryd.prog 66 #[.agg #[.int .i64 p.src, .int .i64 p.dst, .int .i64 p.proto, .int .i64 p.a, .int .i64 p.b, .int .i64 p.kind, .int .i64 p.flags, .int .i64 p.seq, .int .i64 p.ack, .string p.body]] w fun e w' => e = .returned (tcpV p) ∧ Below w.heap.size w w' := by
  have HB := fun o => hidS ((Below.refl w.heap.size w).alloc (Nat.le_refl _) o)
  go_enter Tryd.func66, Tryd.ntmps66
  go_wp2
  go_ret
  exact ⟨rfl, (HB _).out⟩
theorem partOf_udp (p : Pk) (w : World) (h17 : p.proto = 17) :
    Calls Tryd.prog 66 #[.agg #[.int .i64 p.src, .int .i64 p.dst, .int .i64 p.proto, .int .i64 p.a, .int .i64 p.b, .int .i64 p.kind, .int .i64 p.flags, .int .i64 p.seq, .int .i64 p.ack, .string p.body]] w fun e w' => e = .returned (udpV p) ∧ Below w.heap.size w w' := by
  have HB := fun o => hidS ((Below.refl w.heap.size w).alloc (Nat.le_refl _) o)
  go_enter Tryd.func66, Tryd.ntmps66
  go_wp2
  go_ret
  exact ⟨rfl, (HB _).out⟩
theorem partOf_err (p : Pk) (w : World) (h1 : p.proto = 1) (h3 : p.kind = 3) :
    Calls Tryd.prog 66 #[.agg #[.int .i64 p.src, .int .i64 p.dst, .int .i64 p.proto, .int .i64 p.a, .int .i64 p.b, .int .i64 p.kind, .int .i64 p.flags, .int .i64 p.seq, .int .i64 p.ack, .string p.body]] w fun e w' => e = .returned (errV p) ∧ Below w.heap.size w w' := by
  have HB := fun o => hidS ((Below.refl w.heap.size w).alloc (Nat.le_refl _) o)
  go_enter Tryd.func66, Tryd.ntmps66
  go_wp2
  go_ret
  exact ⟨rfl, (HB _).out⟩
theorem partOf_echo (p : Pk) (w : World) (h1 : p.proto = 1) (h3 : p.kind ≠ 3) :
    Calls Tryd.prog 66 #[.agg #[.int .i64 p.src, .int .i64 p.dst, .int .i64 p.proto, .int .i64 p.a, .int .i64 p.b, .int .i64 p.kind, .int .i64 p.flags, .int .i64 p.seq, .int .i64 p.ack, .string p.body]] w fun e w' => e = .returned (echoV p) ∧ Below w.heap.size w w' := by
  have HB := fun o => hidS ((Below.refl w.heap.size w).alloc (Nat.le_refl _) o)
  go_enter Tryd.func66, Tryd.ntmps66
  go_wp2
  go_ret
  exact ⟨rfl, (HB _).out⟩
theorem partOf_none (p : Pk) (w : World) (h6 : p.proto ≠ 6) (h17 : p.proto ≠ 17) (h1 : p.proto ≠ 1) :
    Calls Tryd.prog 66 #[.agg #[.int .i64 p.src, .int .i64 p.dst, .int .i64 p.proto, .int .i64 p.a, .int .i64 p.b, .int .i64 p.kind, .int .i64 p.flags, .int .i64 p.seq, .int .i64 p.ack, .string p.body]] w fun e w' => e = .returned (.nilIface) ∧ Below w.heap.size w w' := by
  have HB := fun o => hidS ((Below.refl w.heap.size w).alloc (Nat.le_refl _) o)
  go_enter Tryd.func66, Tryd.ntmps66
  go_wp2
  go_ret
  exact ⟨rfl, (HB _).out⟩
end Go.Proofs.YtbhemimhmkgfiaaDoor
