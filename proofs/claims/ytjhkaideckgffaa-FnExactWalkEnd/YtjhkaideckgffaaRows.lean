/-
  No cell of these rows narrows 'for every input' (looked for: loops, veiled, ifaces, maps, wideKeys, modest, calm, conditions, laid).
  DERIVED. THE GIVEN ROWS OF THIS SEAT. 4 by the template 'for every input the law returns true; each argument reads behind the call as it read before'; 0 by the template 'total and deterministic' (their statements: YtjhkaideckgffaaTotals.lean).
  GIVEN WITH THE SEED: the statements are not yours to turn. If you find one false, say at which input.
  Laid BY PROGRAM, IN A SANDBOX (cutbox-rows.mjs): the forced cells as the released guide's own fill.sh prints them over the translation 3c19b423361d4f17… (all of the seat's roots in one cut). By AI agents, Wed Nov 11 2026. No macro, syntax, notation, axiom, sorry.
-/
import Derived.Test.YtjhkaideckgffaaChecked
import GoSem.Claim
import GoSem.ClaimJoined
import GoSem.ClaimMapViews
import Derived.JoinedTies
import Derived.KernelRfl
namespace Go.Proofs.Ytjhkaideckgffaa
/- THE CELL 'sum', in the pinned program and in every row, IS THE sha256 OF THE DUMP (.gsa) THAT YtjhkaideckgffaaProg.lean LOADS. Nothing in Lean hashes anything: it is a label: what it is worth is what the hold of that sum in a sandbox is worth. -/
noncomputable def Try.pinned : Pinned := { name := "ytjhkaideckgffaa", sum := "3c19b423361d4f17a12f52074694bb50129641a069320d7c1d6eab4d2a67db67", checked := Try.checked }
namespace Rows
def none {H : Type} : Left H := { results := [], args := [] }

/-- 'laws.FnExactWalkRight': WHATEVER THE INPUT: true; the input reads as it did. -/
def fnExactWalkRightSpec : ChangeSpec := { name := "fnExactWalkRight", fn := fun _ => fun
  | [d1, d2] => { results := [.lit (.bool true)], args := [d1, d2] }
  | _ => none }
def fnExactWalkRightRow : OpenClaim := { program := "ytjhkaideckgffaa", sum := "3c19b423361d4f17a12f52074694bb50129641a069320d7c1d6eab4d2a67db67", func := "loop.example/g00542/laws.FnExactWalkRight", spec := "fnExactWalkRight", unfollowed := true, recurses := true, apart := false }
def FnExactWalkRightSaid : Prop := fnExactWalkRightRow.holds Try.pinned (OpenSpec.ofChange fnExactWalkRightSpec)

/-- ITS FALSE NEIGHBOUR: 'it returns false'. Refute it at one input. -/
def fnExactWalkRightWrong : ChangeSpec := { name := "fnExactWalkRight", fn := fun _ => fun
  | [d1, d2] => { results := [.lit (.bool false)], args := [d1, d2] }
  | _ => none }
def FnExactWalkRightWrongFalsely : Prop := fnExactWalkRightRow.holds Try.pinned (OpenSpec.ofChange fnExactWalkRightWrong)

/-- 'laws.FnExactWalkNew': WHATEVER THE INPUT: true; the input reads as it did. -/
def fnExactWalkNewSpec : ChangeSpec := { name := "fnExactWalkNew", fn := fun _ => fun
  | [d1, d2] => { results := [.lit (.bool true)], args := [d1, d2] }
  | _ => none }
def fnExactWalkNewRow : OpenClaim := { program := "ytjhkaideckgffaa", sum := "3c19b423361d4f17a12f52074694bb50129641a069320d7c1d6eab4d2a67db67", func := "loop.example/g00542/laws.FnExactWalkNew", spec := "fnExactWalkNew", apart := false }
def FnExactWalkNewSaid : Prop := fnExactWalkNewRow.holds Try.pinned (OpenSpec.ofChange fnExactWalkNewSpec)

/-- ITS FALSE NEIGHBOUR: 'it returns false'. Refute it at one input. -/
def fnExactWalkNewWrong : ChangeSpec := { name := "fnExactWalkNew", fn := fun _ => fun
  | [d1, d2] => { results := [.lit (.bool false)], args := [d1, d2] }
  | _ => none }
def FnExactWalkNewWrongFalsely : Prop := fnExactWalkNewRow.holds Try.pinned (OpenSpec.ofChange fnExactWalkNewWrong)

/-- 'laws.FnExactWalkStep': WHATEVER THE INPUT: true; the input reads as it did. -/
def fnExactWalkStepSpec : ChangeSpec := { name := "fnExactWalkStep", fn := fun _ => fun
  | [d1, d2] => { results := [.lit (.bool true)], args := [d1, d2] }
  | _ => none }
def fnExactWalkStepRow : OpenClaim := { program := "ytjhkaideckgffaa", sum := "3c19b423361d4f17a12f52074694bb50129641a069320d7c1d6eab4d2a67db67", func := "loop.example/g00542/laws.FnExactWalkStep", spec := "fnExactWalkStep", unfollowed := true, recurses := true, apart := false }
def FnExactWalkStepSaid : Prop := fnExactWalkStepRow.holds Try.pinned (OpenSpec.ofChange fnExactWalkStepSpec)

/-- ITS FALSE NEIGHBOUR: 'it returns false'. Refute it at one input. -/
def fnExactWalkStepWrong : ChangeSpec := { name := "fnExactWalkStep", fn := fun _ => fun
  | [d1, d2] => { results := [.lit (.bool false)], args := [d1, d2] }
  | _ => none }
def FnExactWalkStepWrongFalsely : Prop := fnExactWalkStepRow.holds Try.pinned (OpenSpec.ofChange fnExactWalkStepWrong)

/-- 'laws.FnExactWalkEnd': WHATEVER THE INPUT: true; the input reads as it did. -/
def fnExactWalkEndSpec : ChangeSpec := { name := "fnExactWalkEnd", fn := fun _ => fun
  | [d1, d2, d3] => { results := [.lit (.bool true)], args := [d1, d2, d3] }
  | _ => none }
def fnExactWalkEndRow : OpenClaim := { program := "ytjhkaideckgffaa", sum := "3c19b423361d4f17a12f52074694bb50129641a069320d7c1d6eab4d2a67db67", func := "loop.example/g00542/laws.FnExactWalkEnd", spec := "fnExactWalkEnd", unfollowed := true, recurses := true, apart := false }
def FnExactWalkEndSaid : Prop := fnExactWalkEndRow.holds Try.pinned (OpenSpec.ofChange fnExactWalkEndSpec)

/-- ITS FALSE NEIGHBOUR: 'it returns false'. Refute it at one input. -/
def fnExactWalkEndWrong : ChangeSpec := { name := "fnExactWalkEnd", fn := fun _ => fun
  | [d1, d2, d3] => { results := [.lit (.bool false)], args := [d1, d2, d3] }
  | _ => none }
def FnExactWalkEndWrongFalsely : Prop := fnExactWalkEndRow.holds Try.pinned (OpenSpec.ofChange fnExactWalkEndWrong)

/- THE SECOND FORM. 'bulk': how many values and letters a reading holds, each counted each time it is reached (what is shared counts as often as it is met; a slice's spare places count too). A statement '..UptoSaid' is the law's where the arguments, and the package variables that the reading takes, are together of bulk at most 1048576: NARROWER than '..Said'. Prove '..Said' where nothing that the law and all that it calls make is longer than what came in: it says more and counts as full. Else prove '..UptoSaid'. A law counts once. -/
mutual
def uptoBulk {H : Type} : DataW H → Nat
  | .lit (.string bytes) => bytes.length + 1
  | .lit _ => 1
  | .nil => 1
  | .ptr d => uptoBulk d + 1
  | .slice elems spare => uptoBulkAll elems + uptoBulkAll spare + 1
  | .agg parts => uptoBulkAll parts + 1
  | .iface _ d => uptoBulk d + 1
  | .map entries => uptoBulkEntries entries + 1
  | .held _ => 1
def uptoBulkAll {H : Type} : List (DataW H) → Nat
  | [] => 0
  | d :: r => uptoBulk d + uptoBulkAll r
def uptoBulkEntries {H : Type} : List (Lit × DataW H) → Nat
  | [] => 0
  | x :: r => uptoBulkEntry x + uptoBulkEntries r
def uptoBulkEntry {H : Type} : Lit × DataW H → Nat
  | (.string bytes, d) => bytes.length + uptoBulk d + 1
  | (_, d) => uptoBulk d + 1
 end
def uptoSmall : (H : Type) → List (DataW H) → Bool := fun _ ds => decide (uptoBulkAll ds ≤ 1048576)
def OpenSpec.upto (s : _root_.Go.ChangeSpec) : _root_.Go.OpenSpec := { _root_.Go.OpenSpec.ofChange s with cond := some uptoSmall }

/-- 'laws.FnExactWalkRight', WHERE WHAT IT READS IS OF BULK AT MOST 1048576: true; the input reads as it did. -/
def fnExactWalkRightUptoRow : OpenClaim := { program := "ytjhkaideckgffaa", sum := "3c19b423361d4f17a12f52074694bb50129641a069320d7c1d6eab4d2a67db67", func := "loop.example/g00542/laws.FnExactWalkRight", spec := "fnExactWalkRight", unfollowed := true, recurses := true, apart := false, narrowed := true }
def FnExactWalkRightUptoSaid : Prop := fnExactWalkRightUptoRow.holds Try.pinned (OpenSpec.upto fnExactWalkRightSpec)

/-- 'laws.FnExactWalkNew', WHERE WHAT IT READS IS OF BULK AT MOST 1048576: true; the input reads as it did. -/
def fnExactWalkNewUptoRow : OpenClaim := { program := "ytjhkaideckgffaa", sum := "3c19b423361d4f17a12f52074694bb50129641a069320d7c1d6eab4d2a67db67", func := "loop.example/g00542/laws.FnExactWalkNew", spec := "fnExactWalkNew", apart := false, narrowed := true }
def FnExactWalkNewUptoSaid : Prop := fnExactWalkNewUptoRow.holds Try.pinned (OpenSpec.upto fnExactWalkNewSpec)

/-- 'laws.FnExactWalkStep', WHERE WHAT IT READS IS OF BULK AT MOST 1048576: true; the input reads as it did. -/
def fnExactWalkStepUptoRow : OpenClaim := { program := "ytjhkaideckgffaa", sum := "3c19b423361d4f17a12f52074694bb50129641a069320d7c1d6eab4d2a67db67", func := "loop.example/g00542/laws.FnExactWalkStep", spec := "fnExactWalkStep", unfollowed := true, recurses := true, apart := false, narrowed := true }
def FnExactWalkStepUptoSaid : Prop := fnExactWalkStepUptoRow.holds Try.pinned (OpenSpec.upto fnExactWalkStepSpec)

/-- 'laws.FnExactWalkEnd', WHERE WHAT IT READS IS OF BULK AT MOST 1048576: true; the input reads as it did. -/
def fnExactWalkEndUptoRow : OpenClaim := { program := "ytjhkaideckgffaa", sum := "3c19b423361d4f17a12f52074694bb50129641a069320d7c1d6eab4d2a67db67", func := "loop.example/g00542/laws.FnExactWalkEnd", spec := "fnExactWalkEnd", unfollowed := true, recurses := true, apart := false, narrowed := true }
def FnExactWalkEndUptoSaid : Prop := fnExactWalkEndUptoRow.holds Try.pinned (OpenSpec.upto fnExactWalkEndSpec)

end Rows
end Go.Proofs.Ytjhkaideckgffaa
