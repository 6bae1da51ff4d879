/-
  NARROWER THAN 'FOR EVERY INPUT', by the rows' own cells (each row's printed sentence says how): FnNums: laid · FnError: ifaces, laid.
  DERIVED. THE GIVEN ROWS OF THIS SEAT. 2 by the template 'for every input the law returns true; each argument reads behind the call as it read before'; 0 by the template 'total and deterministic' (their statements: YtokjhfgbnpdfnaaDoorTotals.lean).
  GIVEN WITH THE SEED: the statements are not yours to turn. If you find one false, say at which input.
  Laid BY PROGRAM, IN A SANDBOX (cutbox-rows.mjs): the forced cells as the released guide's own fill.sh prints them over the translation eca4d980c57466b1… (all of the seat's roots in one cut). By AI agents, Wed Nov 11 2026. No macro, syntax, notation, axiom, sorry.
-/
import Derived.Test.YtokjhfgbnpdfnaaDoorChecked
import GoSem.Claim
import GoSem.ClaimJoined
import GoSem.ClaimMapViews
import Derived.JoinedTies
import Derived.KernelRfl
namespace Go.Proofs.YtokjhfgbnpdfnaaDoor
/- THE CELL 'sum', in the pinned program and in every row, IS THE sha256 OF THE DUMP (.gsa) THAT YtokjhfgbnpdfnaaDoorProg.lean LOADS. Nothing in Lean hashes anything: it is a label: what it is worth is what the hold of that sum in a sandbox is worth. -/
noncomputable def Tryd.pinned : Pinned := { name := "ytokjhfgbnpdfnaadoor", sum := "eca4d980c57466b13bc122e281616ffc867e96a2182a5fae5cc7a4eb3168005e", checked := Tryd.checked }
namespace Rows
def none {H : Type} : Left H := { results := [], args := [] }

/- WHAT THE LISTED PACKAGE-LEVEL VARIABLES READ AS WHEN THE CALL BEGINS. Each datum BY PROGRAM (the guide's laid-datum.mjs) off the statement by which the dump's own 'gosem.cut.vars' lays the variable. In a bare row this is a premise. The card (YtokjhfgbnpdfnaaDoorCards.lean) ties it to the program's text. -/
def laid_errors_errorType {H : Type} : DataW H := .iface "internal/reflectlite.rtype" (.agg [.ptr (.lit (.string [101, 114, 114, 111, 114]))])
def laid_loop_example_g00542_impl_errForm {H : Type} : DataW H := .iface "*errors.errorString" (.ptr (.agg [.lit (.string [112, 97, 99, 107, 101, 116, 58, 32, 110, 111, 116, 32, 111, 102, 32, 116, 104, 101, 32, 102, 111, 114, 109, 32, 116, 104, 97, 116, 32, 105, 115, 32, 97, 115, 107, 101, 100, 32, 102, 111, 114])]))
def laid_loop_example_g00542_impl_errShort {H : Type} : DataW H := .iface "*errors.errorString" (.ptr (.agg [.lit (.string [112, 97, 99, 107, 101, 116, 58, 32, 102, 101, 119, 101, 114, 32, 98, 121, 116, 101, 115, 32, 116, 104, 97, 110, 32, 116, 104, 101, 32, 108, 101, 97, 115, 116, 32, 111, 110, 101, 32, 104, 97, 115])]))
def laid_loop_example_g00542_impl_errSyntax {H : Type} : DataW H := .iface "*errors.errorString" (.ptr (.agg [.lit (.string [112, 97, 99, 107, 101, 116, 58, 32, 110, 111, 32, 112, 97, 99, 107, 101, 116, 32, 105, 115, 32, 119, 114, 105, 116, 116, 101, 110, 32, 115, 111])]))
def laid_loop_example_g00542_impl_errSum {H : Type} : DataW H := .iface "*errors.errorString" (.ptr (.agg [.lit (.string [112, 97, 99, 107, 101, 116, 58, 32, 97, 32, 99, 104, 101, 99, 107, 32, 105, 115, 32, 110, 111, 116, 32, 116, 104, 97, 116, 32, 111, 102, 32, 105, 116, 115, 32, 98, 121, 116, 101, 115])]))

/-- 'laws.FnNums': WHATEVER THE INPUT: true; the input reads as it did. -/
def fnNumsSpec : ChangeSpec := { name := "fnNums", fn := fun _ => fun
  | [d1, d2] => { results := [.lit (.bool true)], args := [d1, d2] }
  | _ => none }
def fnNumsRow : OpenClaim := { program := "ytokjhfgbnpdfnaadoor", sum := "eca4d980c57466b13bc122e281616ffc867e96a2182a5fae5cc7a4eb3168005e", func := "loop.example/g00542/laws.FnNums", spec := "fnNums", inPlace := ["internal/reflectlite.ValueOf", "(internal/reflectlite.Value).Type", "(internal/reflectlite.Value).IsNil", "internal/reflectlite.TypeOf", "(internal/reflectlite.Value).Elem", "(internal/reflectlite.Value).Set"], unfollowed := true, recurses := true, named := ["errors.errorType"], apart := false, laid := [("errors.errorType", laid_errors_errorType)] }
def FnNumsSaid : Prop := fnNumsRow.holds Tryd.pinned (OpenSpec.ofChange fnNumsSpec)

/-- ITS FALSE NEIGHBOUR: 'it returns false'. Refute it at one input. -/
def fnNumsWrong : ChangeSpec := { name := "fnNums", fn := fun _ => fun
  | [d1, d2] => { results := [.lit (.bool false)], args := [d1, d2] }
  | _ => none }
def FnNumsWrongFalsely : Prop := fnNumsRow.holds Tryd.pinned (OpenSpec.ofChange fnNumsWrong)

/-- 'laws.FnError': WHATEVER THE INPUT: true; the input reads as it did. -/
def fnErrorSpec : ChangeSpec := { name := "fnError", vars := ["loop.example/g00542/impl.errForm", "loop.example/g00542/impl.errShort", "loop.example/g00542/impl.errSyntax", "loop.example/g00542/impl.errSum"], fn := fun _ => fun
  | [d1, d2, g1, g2, g3, g4] => { results := [.lit (.bool true)], args := [d1, d2], vars := [g1, g2, g3, g4] }
  | _ => none }
def fnErrorRow : OpenClaim := { program := "ytokjhfgbnpdfnaadoor", sum := "eca4d980c57466b13bc122e281616ffc867e96a2182a5fae5cc7a4eb3168005e", func := "loop.example/g00542/laws.FnError", spec := "fnError", inPlace := ["internal/reflectlite.TypeOf"], unfollowed := true, recurses := true, named := ["loop.example/g00542/impl.errForm", "loop.example/g00542/impl.errShort", "loop.example/g00542/impl.errSyntax", "loop.example/g00542/impl.errSum"], ifaces := true, apart := false, laid := [("loop.example/g00542/impl.errForm", laid_loop_example_g00542_impl_errForm), ("loop.example/g00542/impl.errShort", laid_loop_example_g00542_impl_errShort), ("loop.example/g00542/impl.errSyntax", laid_loop_example_g00542_impl_errSyntax), ("loop.example/g00542/impl.errSum", laid_loop_example_g00542_impl_errSum)] }
def FnErrorSaid : Prop := fnErrorRow.holds Tryd.pinned (OpenSpec.ofChange fnErrorSpec)

/-- ITS FALSE NEIGHBOUR: 'it returns false'. Refute it at one input. -/
def fnErrorWrong : ChangeSpec := { name := "fnError", vars := ["loop.example/g00542/impl.errForm", "loop.example/g00542/impl.errShort", "loop.example/g00542/impl.errSyntax", "loop.example/g00542/impl.errSum"], fn := fun _ => fun
  | [d1, d2, g1, g2, g3, g4] => { results := [.lit (.bool false)], args := [d1, d2], vars := [g1, g2, g3, g4] }
  | _ => none }
def FnErrorWrongFalsely : Prop := fnErrorRow.holds Tryd.pinned (OpenSpec.ofChange fnErrorWrong)

/- THE SECOND FORM. 'bulk': how many values and letters a reading holds, each counted each time it is reached (what is shared counts as often as it is met; a slice's spare places count too). A statement '..UptoSaid' is the law's where the arguments, and the package variables that the reading takes, are together of bulk at most 1048576: NARROWER than '..Said'. Prove '..Said' where nothing that the law and all that it calls make is longer than what came in: it says more and counts as full. Else prove '..UptoSaid'. A law counts once. -/
mutual
def uptoBulk {H : Type} : DataW H → Nat
  | .lit (.string bytes) => bytes.length + 1
  | .lit _ => 1
  | .nil => 1
  | .ptr d => uptoBulk d + 1
  | .slice elems spare => uptoBulkAll elems + uptoBulkAll spare + 1
  | .agg parts => uptoBulkAll parts + 1
  | .iface _ d => uptoBulk d + 1
  | .map entries => uptoBulkEntries entries + 1
  | .held _ => 1
def uptoBulkAll {H : Type} : List (DataW H) → Nat
  | [] => 0
  | d :: r => uptoBulk d + uptoBulkAll r
def uptoBulkEntries {H : Type} : List (Lit × DataW H) → Nat
  | [] => 0
  | x :: r => uptoBulkEntry x + uptoBulkEntries r
def uptoBulkEntry {H : Type} : Lit × DataW H → Nat
  | (.string bytes, d) => bytes.length + uptoBulk d + 1
  | (_, d) => uptoBulk d + 1
 end
def uptoSmall : (H : Type) → List (DataW H) → Bool := fun _ ds => decide (uptoBulkAll ds ≤ 1048576)
def OpenSpec.upto (s : _root_.Go.ChangeSpec) : _root_.Go.OpenSpec := { _root_.Go.OpenSpec.ofChange s with cond := some uptoSmall }

/-- 'laws.FnNums', WHERE WHAT IT READS IS OF BULK AT MOST 1048576: true; the input reads as it did. -/
def fnNumsUptoRow : OpenClaim := { program := "ytokjhfgbnpdfnaadoor", sum := "eca4d980c57466b13bc122e281616ffc867e96a2182a5fae5cc7a4eb3168005e", func := "loop.example/g00542/laws.FnNums", spec := "fnNums", inPlace := ["internal/reflectlite.ValueOf", "(internal/reflectlite.Value).Type", "(internal/reflectlite.Value).IsNil", "internal/reflectlite.TypeOf", "(internal/reflectlite.Value).Elem", "(internal/reflectlite.Value).Set"], unfollowed := true, recurses := true, named := ["errors.errorType"], apart := false, laid := [("errors.errorType", laid_errors_errorType)], narrowed := true }
def FnNumsUptoSaid : Prop := fnNumsUptoRow.holds Tryd.pinned (OpenSpec.upto fnNumsSpec)

/-- 'laws.FnError', WHERE WHAT IT READS IS OF BULK AT MOST 1048576: true; the input reads as it did. -/
def fnErrorUptoRow : OpenClaim := { program := "ytokjhfgbnpdfnaadoor", sum := "eca4d980c57466b13bc122e281616ffc867e96a2182a5fae5cc7a4eb3168005e", func := "loop.example/g00542/laws.FnError", spec := "fnError", inPlace := ["internal/reflectlite.TypeOf"], unfollowed := true, recurses := true, named := ["loop.example/g00542/impl.errForm", "loop.example/g00542/impl.errShort", "loop.example/g00542/impl.errSyntax", "loop.example/g00542/impl.errSum"], ifaces := true, apart := false, laid := [("loop.example/g00542/impl.errForm", laid_loop_example_g00542_impl_errForm), ("loop.example/g00542/impl.errShort", laid_loop_example_g00542_impl_errShort), ("loop.example/g00542/impl.errSyntax", laid_loop_example_g00542_impl_errSyntax), ("loop.example/g00542/impl.errSum", laid_loop_example_g00542_impl_errSum)], narrowed := true }
def FnErrorUptoSaid : Prop := fnErrorUptoRow.holds Tryd.pinned (OpenSpec.upto fnErrorSpec)

end Rows
end Go.Proofs.YtokjhfgbnpdfnaaDoor
