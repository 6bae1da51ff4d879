/-
  No cell of these rows narrows 'for every input' (looked for: loops, veiled, ifaces, maps, wideKeys, modest, calm, conditions, laid).
  DERIVED. THE GIVEN ROWS OF THIS SEAT. 3 by the template 'for every input the law returns true; each argument reads behind the call as it read before'; 0 by the template 'total and deterministic' (their statements: YtbhemimhmkgfiaaTotals.lean).
  GIVEN WITH THE SEED: the statements are not yours to turn. If you find one false, say at which input.
  Laid BY PROGRAM, IN A SANDBOX (cutbox-rows.mjs): the forced cells as the released guide's own fill.sh prints them over the translation 3f55effc4f9a7c8d… (all of the seat's roots in one cut). By AI agents, Wed Nov 11 2026. No macro, syntax, notation, axiom, sorry.
-/
import Derived.Test.YtbhemimhmkgfiaaChecked
import GoSem.Claim
import GoSem.ClaimJoined
import GoSem.ClaimMapViews
import Derived.JoinedTies
import Derived.KernelRfl
namespace Go.Proofs.Ytbhemimhmkgfiaa
/- THE CELL 'sum', in the pinned program and in every row, IS THE sha256 OF THE DUMP (.gsa) THAT YtbhemimhmkgfiaaProg.lean LOADS. Nothing in Lean hashes anything: it is a label: what it is worth is what the hold of that sum in a sandbox is worth. -/
noncomputable def Try.pinned : Pinned := { name := "ytbhemimhmkgfiaa", sum := "3f55effc4f9a7c8d64f9f00a131cddefccf769c1db40c0a22e5b3ff94a7abf79", checked := Try.checked }
namespace Rows
def none {H : Type} : Left H := { results := [], args := [] }

/-- 'laws.FnExactFlowRight': WHATEVER THE INPUT: true; the input reads as it did. -/
def fnExactFlowRightSpec : ChangeSpec := { name := "fnExactFlowRight", fn := fun _ => fun
  | [d] => { results := [.lit (.bool true)], args := [d] }
  | _ => none }
def fnExactFlowRightRow : OpenClaim := { program := "ytbhemimhmkgfiaa", sum := "3f55effc4f9a7c8d64f9f00a131cddefccf769c1db40c0a22e5b3ff94a7abf79", func := "loop.example/g00542/laws.FnExactFlowRight", spec := "fnExactFlowRight", apart := false }
def FnExactFlowRightSaid : Prop := fnExactFlowRightRow.holds Try.pinned (OpenSpec.ofChange fnExactFlowRightSpec)

/-- ITS FALSE NEIGHBOUR: 'it returns false'. Refute it at one input. -/
def fnExactFlowRightWrong : ChangeSpec := { name := "fnExactFlowRight", fn := fun _ => fun
  | [d] => { results := [.lit (.bool false)], args := [d] }
  | _ => none }
def FnExactFlowRightWrongFalsely : Prop := fnExactFlowRightRow.holds Try.pinned (OpenSpec.ofChange fnExactFlowRightWrong)

/-- 'laws.FnExactFlowNew': WHATEVER THE INPUT: true; the input reads as it did. -/
def fnExactFlowNewSpec : ChangeSpec := { name := "fnExactFlowNew", fn := fun _ => fun
  | [d1, d2, d3] => { results := [.lit (.bool true)], args := [d1, d2, d3] }
  | _ => none }
def fnExactFlowNewRow : OpenClaim := { program := "ytbhemimhmkgfiaa", sum := "3f55effc4f9a7c8d64f9f00a131cddefccf769c1db40c0a22e5b3ff94a7abf79", func := "loop.example/g00542/laws.FnExactFlowNew", spec := "fnExactFlowNew", unfollowed := true, recurses := true, apart := false }
def FnExactFlowNewSaid : Prop := fnExactFlowNewRow.holds Try.pinned (OpenSpec.ofChange fnExactFlowNewSpec)

/-- ITS FALSE NEIGHBOUR: 'it returns false'. Refute it at one input. -/
def fnExactFlowNewWrong : ChangeSpec := { name := "fnExactFlowNew", fn := fun _ => fun
  | [d1, d2, d3] => { results := [.lit (.bool false)], args := [d1, d2, d3] }
  | _ => none }
def FnExactFlowNewWrongFalsely : Prop := fnExactFlowNewRow.holds Try.pinned (OpenSpec.ofChange fnExactFlowNewWrong)

/-- 'laws.FnExactFlowNext': WHATEVER THE INPUT: true; the input reads as it did. -/
def fnExactFlowNextSpec : ChangeSpec := { name := "fnExactFlowNext", fn := fun _ => fun
  | [d1, d2, d3, d4] => { results := [.lit (.bool true)], args := [d1, d2, d3, d4] }
  | _ => none }
def fnExactFlowNextRow : OpenClaim := { program := "ytbhemimhmkgfiaa", sum := "3f55effc4f9a7c8d64f9f00a131cddefccf769c1db40c0a22e5b3ff94a7abf79", func := "loop.example/g00542/laws.FnExactFlowNext", spec := "fnExactFlowNext", unfollowed := true, recurses := true, apart := false }
def FnExactFlowNextSaid : Prop := fnExactFlowNextRow.holds Try.pinned (OpenSpec.ofChange fnExactFlowNextSpec)

/-- ITS FALSE NEIGHBOUR: 'it returns false'. Refute it at one input. -/
def fnExactFlowNextWrong : ChangeSpec := { name := "fnExactFlowNext", fn := fun _ => fun
  | [d1, d2, d3, d4] => { results := [.lit (.bool false)], args := [d1, d2, d3, d4] }
  | _ => none }
def FnExactFlowNextWrongFalsely : Prop := fnExactFlowNextRow.holds Try.pinned (OpenSpec.ofChange fnExactFlowNextWrong)

/- THE SECOND FORM. 'bulk': how many values and letters a reading holds, each counted each time it is reached (what is shared counts as often as it is met; a slice's spare places count too). A statement '..UptoSaid' is the law's where the arguments, and the package variables that the reading takes, are together of bulk at most 1048576: NARROWER than '..Said'. Prove '..Said' where nothing that the law and all that it calls make is longer than what came in: it says more and counts as full. Else prove '..UptoSaid'. A law counts once. -/
mutual
def uptoBulk {H : Type} : DataW H → Nat
  | .lit (.string bytes) => bytes.length + 1
  | .lit _ => 1
  | .nil => 1
  | .ptr d => uptoBulk d + 1
  | .slice elems spare => uptoBulkAll elems + uptoBulkAll spare + 1
  | .agg parts => uptoBulkAll parts + 1
  | .iface _ d => uptoBulk d + 1
  | .map entries => uptoBulkEntries entries + 1
  | .held _ => 1
def uptoBulkAll {H : Type} : List (DataW H) → Nat
  | [] => 0
  | d :: r => uptoBulk d + uptoBulkAll r
def uptoBulkEntries {H : Type} : List (Lit × DataW H) → Nat
  | [] => 0
  | x :: r => uptoBulkEntry x + uptoBulkEntries r
def uptoBulkEntry {H : Type} : Lit × DataW H → Nat
  | (.string bytes, d) => bytes.length + uptoBulk d + 1
  | (_, d) => uptoBulk d + 1
 end
def uptoSmall : (H : Type) → List (DataW H) → Bool := fun _ ds => decide (uptoBulkAll ds ≤ 1048576)
def OpenSpec.upto (s : _root_.Go.ChangeSpec) : _root_.Go.OpenSpec := { _root_.Go.OpenSpec.ofChange s with cond := some uptoSmall }

/-- 'laws.FnExactFlowRight', WHERE WHAT IT READS IS OF BULK AT MOST 1048576: true; the input reads as it did. -/
def fnExactFlowRightUptoRow : OpenClaim := { program := "ytbhemimhmkgfiaa", sum := "3f55effc4f9a7c8d64f9f00a131cddefccf769c1db40c0a22e5b3ff94a7abf79", func := "loop.example/g00542/laws.FnExactFlowRight", spec := "fnExactFlowRight", apart := false, narrowed := true }
def FnExactFlowRightUptoSaid : Prop := fnExactFlowRightUptoRow.holds Try.pinned (OpenSpec.upto fnExactFlowRightSpec)

/-- 'laws.FnExactFlowNew', WHERE WHAT IT READS IS OF BULK AT MOST 1048576: true; the input reads as it did. -/
def fnExactFlowNewUptoRow : OpenClaim := { program := "ytbhemimhmkgfiaa", sum := "3f55effc4f9a7c8d64f9f00a131cddefccf769c1db40c0a22e5b3ff94a7abf79", func := "loop.example/g00542/laws.FnExactFlowNew", spec := "fnExactFlowNew", unfollowed := true, recurses := true, apart := false, narrowed := true }
def FnExactFlowNewUptoSaid : Prop := fnExactFlowNewUptoRow.holds Try.pinned (OpenSpec.upto fnExactFlowNewSpec)

/-- 'laws.FnExactFlowNext', WHERE WHAT IT READS IS OF BULK AT MOST 1048576: true; the input reads as it did. -/
def fnExactFlowNextUptoRow : OpenClaim := { program := "ytbhemimhmkgfiaa", sum := "3f55effc4f9a7c8d64f9f00a131cddefccf769c1db40c0a22e5b3ff94a7abf79", func := "loop.example/g00542/laws.FnExactFlowNext", spec := "fnExactFlowNext", unfollowed := true, recurses := true, apart := false, narrowed := true }
def FnExactFlowNextUptoSaid : Prop := fnExactFlowNextUptoRow.holds Try.pinned (OpenSpec.upto fnExactFlowNextSpec)

end Rows
end Go.Proofs.Ytbhemimhmkgfiaa
