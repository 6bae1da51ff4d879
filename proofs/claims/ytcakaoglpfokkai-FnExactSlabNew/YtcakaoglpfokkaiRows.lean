/-
  No cell of these rows narrows 'for every input' (looked for: loops, veiled, ifaces, maps, wideKeys, modest, calm, conditions, laid).
  DERIVED. THE GIVEN ROWS OF THIS SEAT. 6 by the template 'for every input the law returns true; each argument reads behind the call as it read before'; 0 by the template 'total and deterministic' (their statements: YtcakaoglpfokkaiTotals.lean).
  GIVEN WITH THE SEED: the statements are not yours to turn. If you find one false, say at which input.
  Laid BY PROGRAM, IN A SANDBOX (cutbox-rows.mjs): the forced cells as the released guide's own fill.sh prints them over the translation 834cc65b729fe512… (all of the seat's roots in one cut). By AI agents, Wed Nov 11 2026. No macro, syntax, notation, axiom, sorry.
-/
import Derived.Test.YtcakaoglpfokkaiChecked
import GoSem.Claim
import GoSem.ClaimJoined
import GoSem.ClaimMapViews
import Derived.JoinedTies
import Derived.KernelRfl
namespace Go.Proofs.Ytcakaoglpfokkai
/- THE CELL 'sum', in the pinned program and in every row, IS THE sha256 OF THE DUMP (.gsa) THAT YtcakaoglpfokkaiProg.lean LOADS. Nothing in Lean hashes anything: it is a label: what it is worth is what the hold of that sum in a sandbox is worth. -/
noncomputable def Try.pinned : Pinned := { name := "ytcakaoglpfokkai", sum := "834cc65b729fe5127cbd5d56fc27bbee1efbd45c7992ae978b31d75272f95f94", checked := Try.checked }
namespace Rows
def none {H : Type} : Left H := { results := [], args := [] }

/-- 'laws.FnExactLifeOf': WHATEVER THE INPUT: true; the input reads as it did. -/
def fnExactLifeOfSpec : ChangeSpec := { name := "fnExactLifeOf", fn := fun _ => fun
  | [d] => { results := [.lit (.bool true)], args := [d] }
  | _ => none }
def fnExactLifeOfRow : OpenClaim := { program := "ytcakaoglpfokkai", sum := "834cc65b729fe5127cbd5d56fc27bbee1efbd45c7992ae978b31d75272f95f94", func := "loop.example/g00542/laws.FnExactLifeOf", spec := "fnExactLifeOf", apart := false }
def FnExactLifeOfSaid : Prop := fnExactLifeOfRow.holds Try.pinned (OpenSpec.ofChange fnExactLifeOfSpec)

/-- ITS FALSE NEIGHBOUR: 'it returns false'. Refute it at one input. -/
def fnExactLifeOfWrong : ChangeSpec := { name := "fnExactLifeOf", fn := fun _ => fun
  | [d] => { results := [.lit (.bool false)], args := [d] }
  | _ => none }
def FnExactLifeOfWrongFalsely : Prop := fnExactLifeOfRow.holds Try.pinned (OpenSpec.ofChange fnExactLifeOfWrong)

/-- 'laws.FnExactStateName': WHATEVER THE INPUT: true; the input reads as it did. -/
def fnExactStateNameSpec : ChangeSpec := { name := "fnExactStateName", fn := fun _ => fun
  | [d] => { results := [.lit (.bool true)], args := [d] }
  | _ => none }
def fnExactStateNameRow : OpenClaim := { program := "ytcakaoglpfokkai", sum := "834cc65b729fe5127cbd5d56fc27bbee1efbd45c7992ae978b31d75272f95f94", func := "loop.example/g00542/laws.FnExactStateName", spec := "fnExactStateName", apart := false }
def FnExactStateNameSaid : Prop := fnExactStateNameRow.holds Try.pinned (OpenSpec.ofChange fnExactStateNameSpec)

/-- ITS FALSE NEIGHBOUR: 'it returns false'. Refute it at one input. -/
def fnExactStateNameWrong : ChangeSpec := { name := "fnExactStateName", fn := fun _ => fun
  | [d] => { results := [.lit (.bool false)], args := [d] }
  | _ => none }
def FnExactStateNameWrongFalsely : Prop := fnExactStateNameRow.holds Try.pinned (OpenSpec.ofChange fnExactStateNameWrong)

/-- 'laws.FnExactSlabRight': WHATEVER THE INPUT: true; the input reads as it did. -/
def fnExactSlabRightSpec : ChangeSpec := { name := "fnExactSlabRight", fn := fun _ => fun
  | [d] => { results := [.lit (.bool true)], args := [d] }
  | _ => none }
def fnExactSlabRightRow : OpenClaim := { program := "ytcakaoglpfokkai", sum := "834cc65b729fe5127cbd5d56fc27bbee1efbd45c7992ae978b31d75272f95f94", func := "loop.example/g00542/laws.FnExactSlabRight", spec := "fnExactSlabRight", apart := false }
def FnExactSlabRightSaid : Prop := fnExactSlabRightRow.holds Try.pinned (OpenSpec.ofChange fnExactSlabRightSpec)

/-- ITS FALSE NEIGHBOUR: 'it returns false'. Refute it at one input. -/
def fnExactSlabRightWrong : ChangeSpec := { name := "fnExactSlabRight", fn := fun _ => fun
  | [d] => { results := [.lit (.bool false)], args := [d] }
  | _ => none }
def FnExactSlabRightWrongFalsely : Prop := fnExactSlabRightRow.holds Try.pinned (OpenSpec.ofChange fnExactSlabRightWrong)

/-- 'laws.FnExactSlabNew': WHATEVER THE INPUT: true; the input reads as it did. -/
def fnExactSlabNewSpec : ChangeSpec := { name := "fnExactSlabNew", fn := fun _ => fun
  | [d1, d2] => { results := [.lit (.bool true)], args := [d1, d2] }
  | _ => none }
def fnExactSlabNewRow : OpenClaim := { program := "ytcakaoglpfokkai", sum := "834cc65b729fe5127cbd5d56fc27bbee1efbd45c7992ae978b31d75272f95f94", func := "loop.example/g00542/laws.FnExactSlabNew", spec := "fnExactSlabNew", apart := false }
def FnExactSlabNewSaid : Prop := fnExactSlabNewRow.holds Try.pinned (OpenSpec.ofChange fnExactSlabNewSpec)

/-- ITS FALSE NEIGHBOUR: 'it returns false'. Refute it at one input. -/
def fnExactSlabNewWrong : ChangeSpec := { name := "fnExactSlabNew", fn := fun _ => fun
  | [d1, d2] => { results := [.lit (.bool false)], args := [d1, d2] }
  | _ => none }
def FnExactSlabNewWrongFalsely : Prop := fnExactSlabNewRow.holds Try.pinned (OpenSpec.ofChange fnExactSlabNewWrong)

/-- 'laws.FnExactSlabFind': WHATEVER THE INPUT: true; the input reads as it did. -/
def fnExactSlabFindSpec : ChangeSpec := { name := "fnExactSlabFind", fn := fun _ => fun
  | [d1, d2] => { results := [.lit (.bool true)], args := [d1, d2] }
  | _ => none }
def fnExactSlabFindRow : OpenClaim := { program := "ytcakaoglpfokkai", sum := "834cc65b729fe5127cbd5d56fc27bbee1efbd45c7992ae978b31d75272f95f94", func := "loop.example/g00542/laws.FnExactSlabFind", spec := "fnExactSlabFind", unfollowed := true, recurses := true, apart := false }
def FnExactSlabFindSaid : Prop := fnExactSlabFindRow.holds Try.pinned (OpenSpec.ofChange fnExactSlabFindSpec)

/-- ITS FALSE NEIGHBOUR: 'it returns false'. Refute it at one input. -/
def fnExactSlabFindWrong : ChangeSpec := { name := "fnExactSlabFind", fn := fun _ => fun
  | [d1, d2] => { results := [.lit (.bool false)], args := [d1, d2] }
  | _ => none }
def FnExactSlabFindWrongFalsely : Prop := fnExactSlabFindRow.holds Try.pinned (OpenSpec.ofChange fnExactSlabFindWrong)

/-- 'laws.FnExactSlabAdd': WHATEVER THE INPUT: true; the input reads as it did. -/
def fnExactSlabAddSpec : ChangeSpec := { name := "fnExactSlabAdd", fn := fun _ => fun
  | [d1, d2] => { results := [.lit (.bool true)], args := [d1, d2] }
  | _ => none }
def fnExactSlabAddRow : OpenClaim := { program := "ytcakaoglpfokkai", sum := "834cc65b729fe5127cbd5d56fc27bbee1efbd45c7992ae978b31d75272f95f94", func := "loop.example/g00542/laws.FnExactSlabAdd", spec := "fnExactSlabAdd", unfollowed := true, recurses := true, apart := false }
def FnExactSlabAddSaid : Prop := fnExactSlabAddRow.holds Try.pinned (OpenSpec.ofChange fnExactSlabAddSpec)

/-- ITS FALSE NEIGHBOUR: 'it returns false'. Refute it at one input. -/
def fnExactSlabAddWrong : ChangeSpec := { name := "fnExactSlabAdd", fn := fun _ => fun
  | [d1, d2] => { results := [.lit (.bool false)], args := [d1, d2] }
  | _ => none }
def FnExactSlabAddWrongFalsely : Prop := fnExactSlabAddRow.holds Try.pinned (OpenSpec.ofChange fnExactSlabAddWrong)

/- THE SECOND FORM. 'bulk': how many values and letters a reading holds, each counted each time it is reached (what is shared counts as often as it is met; a slice's spare places count too). A statement '..UptoSaid' is the law's where the arguments, and the package variables that the reading takes, are together of bulk at most 1048576: NARROWER than '..Said'. Prove '..Said' where nothing that the law and all that it calls make is longer than what came in: it says more and counts as full. Else prove '..UptoSaid'. A law counts once. -/
mutual
def uptoBulk {H : Type} : DataW H → Nat
  | .lit (.string bytes) => bytes.length + 1
  | .lit _ => 1
  | .nil => 1
  | .ptr d => uptoBulk d + 1
  | .slice elems spare => uptoBulkAll elems + uptoBulkAll spare + 1
  | .agg parts => uptoBulkAll parts + 1
  | .iface _ d => uptoBulk d + 1
  | .map entries => uptoBulkEntries entries + 1
  | .held _ => 1
def uptoBulkAll {H : Type} : List (DataW H) → Nat
  | [] => 0
  | d :: r => uptoBulk d + uptoBulkAll r
def uptoBulkEntries {H : Type} : List (Lit × DataW H) → Nat
  | [] => 0
  | x :: r => uptoBulkEntry x + uptoBulkEntries r
def uptoBulkEntry {H : Type} : Lit × DataW H → Nat
  | (.string bytes, d) => bytes.length + uptoBulk d + 1
  | (_, d) => uptoBulk d + 1
 end
def uptoSmall : (H : Type) → List (DataW H) → Bool := fun _ ds => decide (uptoBulkAll ds ≤ 1048576)
def OpenSpec.upto (s : _root_.Go.ChangeSpec) : _root_.Go.OpenSpec := { _root_.Go.OpenSpec.ofChange s with cond := some uptoSmall }

/-- 'laws.FnExactLifeOf', WHERE WHAT IT READS IS OF BULK AT MOST 1048576: true; the input reads as it did. -/
def fnExactLifeOfUptoRow : OpenClaim := { program := "ytcakaoglpfokkai", sum := "834cc65b729fe5127cbd5d56fc27bbee1efbd45c7992ae978b31d75272f95f94", func := "loop.example/g00542/laws.FnExactLifeOf", spec := "fnExactLifeOf", apart := false, narrowed := true }
def FnExactLifeOfUptoSaid : Prop := fnExactLifeOfUptoRow.holds Try.pinned (OpenSpec.upto fnExactLifeOfSpec)

/-- 'laws.FnExactStateName', WHERE WHAT IT READS IS OF BULK AT MOST 1048576: true; the input reads as it did. -/
def fnExactStateNameUptoRow : OpenClaim := { program := "ytcakaoglpfokkai", sum := "834cc65b729fe5127cbd5d56fc27bbee1efbd45c7992ae978b31d75272f95f94", func := "loop.example/g00542/laws.FnExactStateName", spec := "fnExactStateName", apart := false, narrowed := true }
def FnExactStateNameUptoSaid : Prop := fnExactStateNameUptoRow.holds Try.pinned (OpenSpec.upto fnExactStateNameSpec)

/-- 'laws.FnExactSlabRight', WHERE WHAT IT READS IS OF BULK AT MOST 1048576: true; the input reads as it did. -/
def fnExactSlabRightUptoRow : OpenClaim := { program := "ytcakaoglpfokkai", sum := "834cc65b729fe5127cbd5d56fc27bbee1efbd45c7992ae978b31d75272f95f94", func := "loop.example/g00542/laws.FnExactSlabRight", spec := "fnExactSlabRight", apart := false, narrowed := true }
def FnExactSlabRightUptoSaid : Prop := fnExactSlabRightUptoRow.holds Try.pinned (OpenSpec.upto fnExactSlabRightSpec)

/-- 'laws.FnExactSlabNew', WHERE WHAT IT READS IS OF BULK AT MOST 1048576: true; the input reads as it did. -/
def fnExactSlabNewUptoRow : OpenClaim := { program := "ytcakaoglpfokkai", sum := "834cc65b729fe5127cbd5d56fc27bbee1efbd45c7992ae978b31d75272f95f94", func := "loop.example/g00542/laws.FnExactSlabNew", spec := "fnExactSlabNew", apart := false, narrowed := true }
def FnExactSlabNewUptoSaid : Prop := fnExactSlabNewUptoRow.holds Try.pinned (OpenSpec.upto fnExactSlabNewSpec)

/-- 'laws.FnExactSlabFind', WHERE WHAT IT READS IS OF BULK AT MOST 1048576: true; the input reads as it did. -/
def fnExactSlabFindUptoRow : OpenClaim := { program := "ytcakaoglpfokkai", sum := "834cc65b729fe5127cbd5d56fc27bbee1efbd45c7992ae978b31d75272f95f94", func := "loop.example/g00542/laws.FnExactSlabFind", spec := "fnExactSlabFind", unfollowed := true, recurses := true, apart := false, narrowed := true }
def FnExactSlabFindUptoSaid : Prop := fnExactSlabFindUptoRow.holds Try.pinned (OpenSpec.upto fnExactSlabFindSpec)

/-- 'laws.FnExactSlabAdd', WHERE WHAT IT READS IS OF BULK AT MOST 1048576: true; the input reads as it did. -/
def fnExactSlabAddUptoRow : OpenClaim := { program := "ytcakaoglpfokkai", sum := "834cc65b729fe5127cbd5d56fc27bbee1efbd45c7992ae978b31d75272f95f94", func := "loop.example/g00542/laws.FnExactSlabAdd", spec := "fnExactSlabAdd", unfollowed := true, recurses := true, apart := false, narrowed := true }
def FnExactSlabAddUptoSaid : Prop := fnExactSlabAddUptoRow.holds Try.pinned (OpenSpec.upto fnExactSlabAddSpec)

end Rows
end Go.Proofs.Ytcakaoglpfokkai
