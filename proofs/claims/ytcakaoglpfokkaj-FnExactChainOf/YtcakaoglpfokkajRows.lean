/-
  No cell of these rows narrows 'for every input' (looked for: loops, veiled, ifaces, maps, wideKeys, modest, calm, conditions, laid).
  DERIVED. THE GIVEN ROWS OF THIS SEAT. 5 by the template 'for every input the law returns true; each argument reads behind the call as it read before'; 0 by the template 'total and deterministic' (their statements: YtcakaoglpfokkajTotals.lean).
  GIVEN WITH THE SEED: the statements are not yours to turn. If you find one false, say at which input.
  Laid BY PROGRAM, IN A SANDBOX (cutbox-rows.mjs): the forced cells as the released guide's own fill.sh prints them over the translation d5ad8ac49769b73e… (all of the seat's roots in one cut). By AI agents, Wed Nov 11 2026. No macro, syntax, notation, axiom, sorry.
-/
import Derived.Test.YtcakaoglpfokkajChecked
import GoSem.Claim
import GoSem.ClaimJoined
import GoSem.ClaimMapViews
import Derived.JoinedTies
import Derived.KernelRfl
namespace Go.Proofs.Ytcakaoglpfokkaj
/- THE CELL 'sum', in the pinned program and in every row, IS THE sha256 OF THE DUMP (.gsa) THAT YtcakaoglpfokkajProg.lean LOADS. Nothing in Lean hashes anything: it is a label: what it is worth is what the hold of that sum in a sandbox is worth. -/
noncomputable def Try.pinned : Pinned := { name := "ytcakaoglpfokkaj", sum := "d5ad8ac49769b73e3582c0bc6a1747bc0d7c31b2e38658e4c2d26cdd932f91e7", checked := Try.checked }
namespace Rows
def none {H : Type} : Left H := { results := [], args := [] }

/-- 'laws.FnExactSlabCut': WHATEVER THE INPUT: true; the input reads as it did. -/
def fnExactSlabCutSpec : ChangeSpec := { name := "fnExactSlabCut", fn := fun _ => fun
  | [d1, d2] => { results := [.lit (.bool true)], args := [d1, d2] }
  | _ => none }
def fnExactSlabCutRow : OpenClaim := { program := "ytcakaoglpfokkaj", sum := "d5ad8ac49769b73e3582c0bc6a1747bc0d7c31b2e38658e4c2d26cdd932f91e7", func := "loop.example/g00542/laws.FnExactSlabCut", spec := "fnExactSlabCut", unfollowed := true, recurses := true, apart := false }
def FnExactSlabCutSaid : Prop := fnExactSlabCutRow.holds Try.pinned (OpenSpec.ofChange fnExactSlabCutSpec)

/-- ITS FALSE NEIGHBOUR: 'it returns false'. Refute it at one input. -/
def fnExactSlabCutWrong : ChangeSpec := { name := "fnExactSlabCut", fn := fun _ => fun
  | [d1, d2] => { results := [.lit (.bool false)], args := [d1, d2] }
  | _ => none }
def FnExactSlabCutWrongFalsely : Prop := fnExactSlabCutRow.holds Try.pinned (OpenSpec.ofChange fnExactSlabCutWrong)

/-- 'laws.FnExactSlabGet': WHATEVER THE INPUT: true; the input reads as it did. -/
def fnExactSlabGetSpec : ChangeSpec := { name := "fnExactSlabGet", fn := fun _ => fun
  | [d1, d2] => { results := [.lit (.bool true)], args := [d1, d2] }
  | _ => none }
def fnExactSlabGetRow : OpenClaim := { program := "ytcakaoglpfokkaj", sum := "d5ad8ac49769b73e3582c0bc6a1747bc0d7c31b2e38658e4c2d26cdd932f91e7", func := "loop.example/g00542/laws.FnExactSlabGet", spec := "fnExactSlabGet", apart := false }
def FnExactSlabGetSaid : Prop := fnExactSlabGetRow.holds Try.pinned (OpenSpec.ofChange fnExactSlabGetSpec)

/-- ITS FALSE NEIGHBOUR: 'it returns false'. Refute it at one input. -/
def fnExactSlabGetWrong : ChangeSpec := { name := "fnExactSlabGet", fn := fun _ => fun
  | [d1, d2] => { results := [.lit (.bool false)], args := [d1, d2] }
  | _ => none }
def FnExactSlabGetWrongFalsely : Prop := fnExactSlabGetRow.holds Try.pinned (OpenSpec.ofChange fnExactSlabGetWrong)

/-- 'laws.FnExactSlabPut': WHATEVER THE INPUT: true; the input reads as it did. -/
def fnExactSlabPutSpec : ChangeSpec := { name := "fnExactSlabPut", fn := fun _ => fun
  | [d1, d2] => { results := [.lit (.bool true)], args := [d1, d2] }
  | _ => none }
def fnExactSlabPutRow : OpenClaim := { program := "ytcakaoglpfokkaj", sum := "d5ad8ac49769b73e3582c0bc6a1747bc0d7c31b2e38658e4c2d26cdd932f91e7", func := "loop.example/g00542/laws.FnExactSlabPut", spec := "fnExactSlabPut", unfollowed := true, recurses := true, apart := false }
def FnExactSlabPutSaid : Prop := fnExactSlabPutRow.holds Try.pinned (OpenSpec.ofChange fnExactSlabPutSpec)

/-- ITS FALSE NEIGHBOUR: 'it returns false'. Refute it at one input. -/
def fnExactSlabPutWrong : ChangeSpec := { name := "fnExactSlabPut", fn := fun _ => fun
  | [d1, d2] => { results := [.lit (.bool false)], args := [d1, d2] }
  | _ => none }
def FnExactSlabPutWrongFalsely : Prop := fnExactSlabPutRow.holds Try.pinned (OpenSpec.ofChange fnExactSlabPutWrong)

/-- 'laws.FnExactChainOf': WHATEVER THE INPUT: true; the input reads as it did. -/
def fnExactChainOfSpec : ChangeSpec := { name := "fnExactChainOf", fn := fun _ => fun
  | [d1, d2] => { results := [.lit (.bool true)], args := [d1, d2] }
  | _ => none }
def fnExactChainOfRow : OpenClaim := { program := "ytcakaoglpfokkaj", sum := "d5ad8ac49769b73e3582c0bc6a1747bc0d7c31b2e38658e4c2d26cdd932f91e7", func := "loop.example/g00542/laws.FnExactChainOf", spec := "fnExactChainOf", apart := false }
def FnExactChainOfSaid : Prop := fnExactChainOfRow.holds Try.pinned (OpenSpec.ofChange fnExactChainOfSpec)

/-- ITS FALSE NEIGHBOUR: 'it returns false'. Refute it at one input. -/
def fnExactChainOfWrong : ChangeSpec := { name := "fnExactChainOf", fn := fun _ => fun
  | [d1, d2] => { results := [.lit (.bool false)], args := [d1, d2] }
  | _ => none }
def FnExactChainOfWrongFalsely : Prop := fnExactChainOfRow.holds Try.pinned (OpenSpec.ofChange fnExactChainOfWrong)

/-- 'laws.FnExactWalkRight': WHATEVER THE INPUT: true; the input reads as it did. -/
def fnExactWalkRightSpec : ChangeSpec := { name := "fnExactWalkRight", fn := fun _ => fun
  | [d1, d2] => { results := [.lit (.bool true)], args := [d1, d2] }
  | _ => none }
def fnExactWalkRightRow : OpenClaim := { program := "ytcakaoglpfokkaj", sum := "d5ad8ac49769b73e3582c0bc6a1747bc0d7c31b2e38658e4c2d26cdd932f91e7", func := "loop.example/g00542/laws.FnExactWalkRight", spec := "fnExactWalkRight", apart := false }
def FnExactWalkRightSaid : Prop := fnExactWalkRightRow.holds Try.pinned (OpenSpec.ofChange fnExactWalkRightSpec)

/-- ITS FALSE NEIGHBOUR: 'it returns false'. Refute it at one input. -/
def fnExactWalkRightWrong : ChangeSpec := { name := "fnExactWalkRight", fn := fun _ => fun
  | [d1, d2] => { results := [.lit (.bool false)], args := [d1, d2] }
  | _ => none }
def FnExactWalkRightWrongFalsely : Prop := fnExactWalkRightRow.holds Try.pinned (OpenSpec.ofChange fnExactWalkRightWrong)

/- THE SECOND FORM. 'bulk': how many values and letters a reading holds, each counted each time it is reached (what is shared counts as often as it is met; a slice's spare places count too). A statement '..UptoSaid' is the law's where the arguments, and the package variables that the reading takes, are together of bulk at most 1048576: NARROWER than '..Said'. Prove '..Said' where nothing that the law and all that it calls make is longer than what came in: it says more and counts as full. Else prove '..UptoSaid'. A law counts once. -/
mutual
def uptoBulk {H : Type} : DataW H → Nat
  | .lit (.string bytes) => bytes.length + 1
  | .lit _ => 1
  | .nil => 1
  | .ptr d => uptoBulk d + 1
  | .slice elems spare => uptoBulkAll elems + uptoBulkAll spare + 1
  | .agg parts => uptoBulkAll parts + 1
  | .iface _ d => uptoBulk d + 1
  | .map entries => uptoBulkEntries entries + 1
  | .held _ => 1
def uptoBulkAll {H : Type} : List (DataW H) → Nat
  | [] => 0
  | d :: r => uptoBulk d + uptoBulkAll r
def uptoBulkEntries {H : Type} : List (Lit × DataW H) → Nat
  | [] => 0
  | x :: r => uptoBulkEntry x + uptoBulkEntries r
def uptoBulkEntry {H : Type} : Lit × DataW H → Nat
  | (.string bytes, d) => bytes.length + uptoBulk d + 1
  | (_, d) => uptoBulk d + 1
 end
def uptoSmall : (H : Type) → List (DataW H) → Bool := fun _ ds => decide (uptoBulkAll ds ≤ 1048576)
def OpenSpec.upto (s : _root_.Go.ChangeSpec) : _root_.Go.OpenSpec := { _root_.Go.OpenSpec.ofChange s with cond := some uptoSmall }

/-- 'laws.FnExactSlabCut', WHERE WHAT IT READS IS OF BULK AT MOST 1048576: true; the input reads as it did. -/
def fnExactSlabCutUptoRow : OpenClaim := { program := "ytcakaoglpfokkaj", sum := "d5ad8ac49769b73e3582c0bc6a1747bc0d7c31b2e38658e4c2d26cdd932f91e7", func := "loop.example/g00542/laws.FnExactSlabCut", spec := "fnExactSlabCut", unfollowed := true, recurses := true, apart := false, narrowed := true }
def FnExactSlabCutUptoSaid : Prop := fnExactSlabCutUptoRow.holds Try.pinned (OpenSpec.upto fnExactSlabCutSpec)

/-- 'laws.FnExactSlabGet', WHERE WHAT IT READS IS OF BULK AT MOST 1048576: true; the input reads as it did. -/
def fnExactSlabGetUptoRow : OpenClaim := { program := "ytcakaoglpfokkaj", sum := "d5ad8ac49769b73e3582c0bc6a1747bc0d7c31b2e38658e4c2d26cdd932f91e7", func := "loop.example/g00542/laws.FnExactSlabGet", spec := "fnExactSlabGet", apart := false, narrowed := true }
def FnExactSlabGetUptoSaid : Prop := fnExactSlabGetUptoRow.holds Try.pinned (OpenSpec.upto fnExactSlabGetSpec)

/-- 'laws.FnExactSlabPut', WHERE WHAT IT READS IS OF BULK AT MOST 1048576: true; the input reads as it did. -/
def fnExactSlabPutUptoRow : OpenClaim := { program := "ytcakaoglpfokkaj", sum := "d5ad8ac49769b73e3582c0bc6a1747bc0d7c31b2e38658e4c2d26cdd932f91e7", func := "loop.example/g00542/laws.FnExactSlabPut", spec := "fnExactSlabPut", unfollowed := true, recurses := true, apart := false, narrowed := true }
def FnExactSlabPutUptoSaid : Prop := fnExactSlabPutUptoRow.holds Try.pinned (OpenSpec.upto fnExactSlabPutSpec)

/-- 'laws.FnExactChainOf', WHERE WHAT IT READS IS OF BULK AT MOST 1048576: true; the input reads as it did. -/
def fnExactChainOfUptoRow : OpenClaim := { program := "ytcakaoglpfokkaj", sum := "d5ad8ac49769b73e3582c0bc6a1747bc0d7c31b2e38658e4c2d26cdd932f91e7", func := "loop.example/g00542/laws.FnExactChainOf", spec := "fnExactChainOf", apart := false, narrowed := true }
def FnExactChainOfUptoSaid : Prop := fnExactChainOfUptoRow.holds Try.pinned (OpenSpec.upto fnExactChainOfSpec)

/-- 'laws.FnExactWalkRight', WHERE WHAT IT READS IS OF BULK AT MOST 1048576: true; the input reads as it did. -/
def fnExactWalkRightUptoRow : OpenClaim := { program := "ytcakaoglpfokkaj", sum := "d5ad8ac49769b73e3582c0bc6a1747bc0d7c31b2e38658e4c2d26cdd932f91e7", func := "loop.example/g00542/laws.FnExactWalkRight", spec := "fnExactWalkRight", apart := false, narrowed := true }
def FnExactWalkRightUptoSaid : Prop := fnExactWalkRightUptoRow.holds Try.pinned (OpenSpec.upto fnExactWalkRightSpec)

end Rows
end Go.Proofs.Ytcakaoglpfokkaj
