/-
  No cell of these rows narrows 'for every input' (looked for: loops, veiled, ifaces, maps, wideKeys, modest, calm, conditions, laid).
  DERIVED. THE GIVEN ROWS OF THIS SEAT. 5 by the template 'for every input the law returns true; each argument reads behind the call as it read before'; 0 by the template 'total and deterministic' (their statements: YtfnpobhjkmkepaaTotals.lean).
  GIVEN WITH THE SEED: the statements are not yours to turn. If you find one false, say at which input.
  Laid BY PROGRAM, IN A SANDBOX (cutbox-rows.mjs): the forced cells as the released guide's own fill.sh prints them over the translation a15121e158ba37e8… (all of the seat's roots in one cut). By AI agents, Wed Nov 11 2026. No macro, syntax, notation, axiom, sorry.
-/
import Derived.Test.YtfnpobhjkmkepaaChecked
import GoSem.Claim
import GoSem.ClaimJoined
import GoSem.ClaimMapViews
import Derived.JoinedTies
import Derived.KernelRfl
namespace Go.Proofs.Ytfnpobhjkmkepaa
/- THE CELL 'sum', in the pinned program and in every row, IS THE sha256 OF THE DUMP (.gsa) THAT YtfnpobhjkmkepaaProg.lean LOADS. Nothing in Lean hashes anything: it is a label: what it is worth is what the hold of that sum in a sandbox is worth. -/
noncomputable def Try.pinned : Pinned := { name := "ytfnpobhjkmkepaa", sum := "a15121e158ba37e8d8749cf12e9135657282216aa8fc62307718f4f2b3dfa014", checked := Try.checked }
namespace Rows
def none {H : Type} : Left H := { results := [], args := [] }

/-- 'laws.FnExactRuleRight': WHATEVER THE INPUT: true; the input reads as it did. -/
def fnExactRuleRightSpec : ChangeSpec := { name := "fnExactRuleRight", fn := fun _ => fun
  | [d] => { results := [.lit (.bool true)], args := [d] }
  | _ => none }
def fnExactRuleRightRow : OpenClaim := { program := "ytfnpobhjkmkepaa", sum := "a15121e158ba37e8d8749cf12e9135657282216aa8fc62307718f4f2b3dfa014", func := "loop.example/g00542/laws.FnExactRuleRight", spec := "fnExactRuleRight", apart := false }
def FnExactRuleRightSaid : Prop := fnExactRuleRightRow.holds Try.pinned (OpenSpec.ofChange fnExactRuleRightSpec)

/-- ITS FALSE NEIGHBOUR: 'it returns false'. Refute it at one input. -/
def fnExactRuleRightWrong : ChangeSpec := { name := "fnExactRuleRight", fn := fun _ => fun
  | [d] => { results := [.lit (.bool false)], args := [d] }
  | _ => none }
def FnExactRuleRightWrongFalsely : Prop := fnExactRuleRightRow.holds Try.pinned (OpenSpec.ofChange fnExactRuleRightWrong)

/-- 'laws.FnExactRulesRight': WHATEVER THE INPUT: true; the input reads as it did. -/
def fnExactRulesRightSpec : ChangeSpec := { name := "fnExactRulesRight", fn := fun _ => fun
  | [d] => { results := [.lit (.bool true)], args := [d] }
  | _ => none }
def fnExactRulesRightRow : OpenClaim := { program := "ytfnpobhjkmkepaa", sum := "a15121e158ba37e8d8749cf12e9135657282216aa8fc62307718f4f2b3dfa014", func := "loop.example/g00542/laws.FnExactRulesRight", spec := "fnExactRulesRight", unfollowed := true, recurses := true, apart := false }
def FnExactRulesRightSaid : Prop := fnExactRulesRightRow.holds Try.pinned (OpenSpec.ofChange fnExactRulesRightSpec)

/-- ITS FALSE NEIGHBOUR: 'it returns false'. Refute it at one input. -/
def fnExactRulesRightWrong : ChangeSpec := { name := "fnExactRulesRight", fn := fun _ => fun
  | [d] => { results := [.lit (.bool false)], args := [d] }
  | _ => none }
def FnExactRulesRightWrongFalsely : Prop := fnExactRulesRightRow.holds Try.pinned (OpenSpec.ofChange fnExactRulesRightWrong)

/-- 'laws.FnExactInNet': WHATEVER THE INPUT: true; the input reads as it did. -/
def fnExactInNetSpec : ChangeSpec := { name := "fnExactInNet", fn := fun _ => fun
  | [d1, d2, d3] => { results := [.lit (.bool true)], args := [d1, d2, d3] }
  | _ => none }
def fnExactInNetRow : OpenClaim := { program := "ytfnpobhjkmkepaa", sum := "a15121e158ba37e8d8749cf12e9135657282216aa8fc62307718f4f2b3dfa014", func := "loop.example/g00542/laws.FnExactInNet", spec := "fnExactInNet", apart := false }
def FnExactInNetSaid : Prop := fnExactInNetRow.holds Try.pinned (OpenSpec.ofChange fnExactInNetSpec)

/-- ITS FALSE NEIGHBOUR: 'it returns false'. Refute it at one input. -/
def fnExactInNetWrong : ChangeSpec := { name := "fnExactInNet", fn := fun _ => fun
  | [d1, d2, d3] => { results := [.lit (.bool false)], args := [d1, d2, d3] }
  | _ => none }
def FnExactInNetWrongFalsely : Prop := fnExactInNetRow.holds Try.pinned (OpenSpec.ofChange fnExactInNetWrong)

/-- 'laws.FnExactRuleFor': WHATEVER THE INPUT: true; the input reads as it did. -/
def fnExactRuleForSpec : ChangeSpec := { name := "fnExactRuleFor", fn := fun _ => fun
  | [d1, d2, d3] => { results := [.lit (.bool true)], args := [d1, d2, d3] }
  | _ => none }
def fnExactRuleForRow : OpenClaim := { program := "ytfnpobhjkmkepaa", sum := "a15121e158ba37e8d8749cf12e9135657282216aa8fc62307718f4f2b3dfa014", func := "loop.example/g00542/laws.FnExactRuleFor", spec := "fnExactRuleFor", unfollowed := true, recurses := true, apart := false }
def FnExactRuleForSaid : Prop := fnExactRuleForRow.holds Try.pinned (OpenSpec.ofChange fnExactRuleForSpec)

/-- ITS FALSE NEIGHBOUR: 'it returns false'. Refute it at one input. -/
def fnExactRuleForWrong : ChangeSpec := { name := "fnExactRuleFor", fn := fun _ => fun
  | [d1, d2, d3] => { results := [.lit (.bool false)], args := [d1, d2, d3] }
  | _ => none }
def FnExactRuleForWrongFalsely : Prop := fnExactRuleForRow.holds Try.pinned (OpenSpec.ofChange fnExactRuleForWrong)

/-- 'laws.FnExactGoesAs': WHATEVER THE INPUT: true; the input reads as it did. -/
def fnExactGoesAsSpec : ChangeSpec := { name := "fnExactGoesAs", fn := fun _ => fun
  | [d1, d2, d3, d4] => { results := [.lit (.bool true)], args := [d1, d2, d3, d4] }
  | _ => none }
def fnExactGoesAsRow : OpenClaim := { program := "ytfnpobhjkmkepaa", sum := "a15121e158ba37e8d8749cf12e9135657282216aa8fc62307718f4f2b3dfa014", func := "loop.example/g00542/laws.FnExactGoesAs", spec := "fnExactGoesAs", unfollowed := true, recurses := true, apart := false }
def FnExactGoesAsSaid : Prop := fnExactGoesAsRow.holds Try.pinned (OpenSpec.ofChange fnExactGoesAsSpec)

/-- ITS FALSE NEIGHBOUR: 'it returns false'. Refute it at one input. -/
def fnExactGoesAsWrong : ChangeSpec := { name := "fnExactGoesAs", fn := fun _ => fun
  | [d1, d2, d3, d4] => { results := [.lit (.bool false)], args := [d1, d2, d3, d4] }
  | _ => none }
def FnExactGoesAsWrongFalsely : Prop := fnExactGoesAsRow.holds Try.pinned (OpenSpec.ofChange fnExactGoesAsWrong)

/- THE SECOND FORM. 'bulk': how many values and letters a reading holds, each counted each time it is reached (what is shared counts as often as it is met; a slice's spare places count too). A statement '..UptoSaid' is the law's where the arguments, and the package variables that the reading takes, are together of bulk at most 1048576: NARROWER than '..Said'. Prove '..Said' where nothing that the law and all that it calls make is longer than what came in: it says more and counts as full. Else prove '..UptoSaid'. A law counts once. -/
mutual
def uptoBulk {H : Type} : DataW H → Nat
  | .lit (.string bytes) => bytes.length + 1
  | .lit _ => 1
  | .nil => 1
  | .ptr d => uptoBulk d + 1
  | .slice elems spare => uptoBulkAll elems + uptoBulkAll spare + 1
  | .agg parts => uptoBulkAll parts + 1
  | .iface _ d => uptoBulk d + 1
  | .map entries => uptoBulkEntries entries + 1
  | .held _ => 1
def uptoBulkAll {H : Type} : List (DataW H) → Nat
  | [] => 0
  | d :: r => uptoBulk d + uptoBulkAll r
def uptoBulkEntries {H : Type} : List (Lit × DataW H) → Nat
  | [] => 0
  | x :: r => uptoBulkEntry x + uptoBulkEntries r
def uptoBulkEntry {H : Type} : Lit × DataW H → Nat
  | (.string bytes, d) => bytes.length + uptoBulk d + 1
  | (_, d) => uptoBulk d + 1
 end
def uptoSmall : (H : Type) → List (DataW H) → Bool := fun _ ds => decide (uptoBulkAll ds ≤ 1048576)
def OpenSpec.upto (s : _root_.Go.ChangeSpec) : _root_.Go.OpenSpec := { _root_.Go.OpenSpec.ofChange s with cond := some uptoSmall }

/-- 'laws.FnExactRuleRight', WHERE WHAT IT READS IS OF BULK AT MOST 1048576: true; the input reads as it did. -/
def fnExactRuleRightUptoRow : OpenClaim := { program := "ytfnpobhjkmkepaa", sum := "a15121e158ba37e8d8749cf12e9135657282216aa8fc62307718f4f2b3dfa014", func := "loop.example/g00542/laws.FnExactRuleRight", spec := "fnExactRuleRight", apart := false, narrowed := true }
def FnExactRuleRightUptoSaid : Prop := fnExactRuleRightUptoRow.holds Try.pinned (OpenSpec.upto fnExactRuleRightSpec)

/-- 'laws.FnExactRulesRight', WHERE WHAT IT READS IS OF BULK AT MOST 1048576: true; the input reads as it did. -/
def fnExactRulesRightUptoRow : OpenClaim := { program := "ytfnpobhjkmkepaa", sum := "a15121e158ba37e8d8749cf12e9135657282216aa8fc62307718f4f2b3dfa014", func := "loop.example/g00542/laws.FnExactRulesRight", spec := "fnExactRulesRight", unfollowed := true, recurses := true, apart := false, narrowed := true }
def FnExactRulesRightUptoSaid : Prop := fnExactRulesRightUptoRow.holds Try.pinned (OpenSpec.upto fnExactRulesRightSpec)

/-- 'laws.FnExactInNet', WHERE WHAT IT READS IS OF BULK AT MOST 1048576: true; the input reads as it did. -/
def fnExactInNetUptoRow : OpenClaim := { program := "ytfnpobhjkmkepaa", sum := "a15121e158ba37e8d8749cf12e9135657282216aa8fc62307718f4f2b3dfa014", func := "loop.example/g00542/laws.FnExactInNet", spec := "fnExactInNet", apart := false, narrowed := true }
def FnExactInNetUptoSaid : Prop := fnExactInNetUptoRow.holds Try.pinned (OpenSpec.upto fnExactInNetSpec)

/-- 'laws.FnExactRuleFor', WHERE WHAT IT READS IS OF BULK AT MOST 1048576: true; the input reads as it did. -/
def fnExactRuleForUptoRow : OpenClaim := { program := "ytfnpobhjkmkepaa", sum := "a15121e158ba37e8d8749cf12e9135657282216aa8fc62307718f4f2b3dfa014", func := "loop.example/g00542/laws.FnExactRuleFor", spec := "fnExactRuleFor", unfollowed := true, recurses := true, apart := false, narrowed := true }
def FnExactRuleForUptoSaid : Prop := fnExactRuleForUptoRow.holds Try.pinned (OpenSpec.upto fnExactRuleForSpec)

/-- 'laws.FnExactGoesAs', WHERE WHAT IT READS IS OF BULK AT MOST 1048576: true; the input reads as it did. -/
def fnExactGoesAsUptoRow : OpenClaim := { program := "ytfnpobhjkmkepaa", sum := "a15121e158ba37e8d8749cf12e9135657282216aa8fc62307718f4f2b3dfa014", func := "loop.example/g00542/laws.FnExactGoesAs", spec := "fnExactGoesAs", unfollowed := true, recurses := true, apart := false, narrowed := true }
def FnExactGoesAsUptoSaid : Prop := fnExactGoesAsUptoRow.holds Try.pinned (OpenSpec.upto fnExactGoesAsSpec)

end Rows
end Go.Proofs.Ytfnpobhjkmkepaa
