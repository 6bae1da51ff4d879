/-
  No cell of these rows narrows 'for every input' (looked for: loops, veiled, ifaces, maps, wideKeys, modest, calm, conditions, laid).
  DERIVED. THE GIVEN ROWS OF THIS SEAT. 4 by the template 'for every input the law returns true; each argument reads behind the call as it read before'; 0 by the template 'total and deterministic' (their statements: YtokjhfgbnpdfnafTotals.lean).
  GIVEN WITH THE SEED: the statements are not yours to turn. If you find one false, say at which input.
  Laid BY PROGRAM, IN A SANDBOX (cutbox-rows.mjs): the forced cells as the released guide's own fill.sh prints them over the translation 83a5196853a8f159… (all of the seat's roots in one cut). By AI agents, Wed Nov 11 2026. No macro, syntax, notation, axiom, sorry.
-/
import Derived.Test.YtokjhfgbnpdfnafChecked
import GoSem.Claim
import GoSem.ClaimJoined
import GoSem.ClaimMapViews
import Derived.JoinedTies
import Derived.KernelRfl
namespace Go.Proofs.Ytokjhfgbnpdfnaf
/- THE CELL 'sum', in the pinned program and in every row, IS THE sha256 OF THE DUMP (.gsa) THAT YtokjhfgbnpdfnafProg.lean LOADS. Nothing in Lean hashes anything: it is a label: what it is worth is what the hold of that sum in a sandbox is worth. -/
noncomputable def Try.pinned : Pinned := { name := "ytokjhfgbnpdfnaf", sum := "83a5196853a8f159e9d99881f727eeff6544bcb7086ac3775b83521657a4e9ad", checked := Try.checked }
namespace Rows
def none {H : Type} : Left H := { results := [], args := [] }

/-- 'laws.FnExactCheckTurn': WHATEVER THE INPUT: true; the input reads as it did. -/
def fnExactCheckTurnSpec : ChangeSpec := { name := "fnExactCheckTurn", fn := fun _ => fun
  | [d1, d2, d3] => { results := [.lit (.bool true)], args := [d1, d2, d3] }
  | _ => none }
def fnExactCheckTurnRow : OpenClaim := { program := "ytokjhfgbnpdfnaf", sum := "83a5196853a8f159e9d99881f727eeff6544bcb7086ac3775b83521657a4e9ad", func := "loop.example/g00542/laws.FnExactCheckTurn", spec := "fnExactCheckTurn", apart := false }
def FnExactCheckTurnSaid : Prop := fnExactCheckTurnRow.holds Try.pinned (OpenSpec.ofChange fnExactCheckTurnSpec)

/-- ITS FALSE NEIGHBOUR: 'it returns false'. Refute it at one input. -/
def fnExactCheckTurnWrong : ChangeSpec := { name := "fnExactCheckTurn", fn := fun _ => fun
  | [d1, d2, d3] => { results := [.lit (.bool false)], args := [d1, d2, d3] }
  | _ => none }
def FnExactCheckTurnWrongFalsely : Prop := fnExactCheckTurnRow.holds Try.pinned (OpenSpec.ofChange fnExactCheckTurnWrong)

/-- 'laws.FnExactWordText': WHATEVER THE INPUT: true; the input reads as it did. -/
def fnExactWordTextSpec : ChangeSpec := { name := "fnExactWordText", fn := fun _ => fun
  | [d] => { results := [.lit (.bool true)], args := [d] }
  | _ => none }
def fnExactWordTextRow : OpenClaim := { program := "ytokjhfgbnpdfnaf", sum := "83a5196853a8f159e9d99881f727eeff6544bcb7086ac3775b83521657a4e9ad", func := "loop.example/g00542/laws.FnExactWordText", spec := "fnExactWordText", apart := false }
def FnExactWordTextSaid : Prop := fnExactWordTextRow.holds Try.pinned (OpenSpec.ofChange fnExactWordTextSpec)

/-- ITS FALSE NEIGHBOUR: 'it returns false'. Refute it at one input. -/
def fnExactWordTextWrong : ChangeSpec := { name := "fnExactWordText", fn := fun _ => fun
  | [d] => { results := [.lit (.bool false)], args := [d] }
  | _ => none }
def FnExactWordTextWrongFalsely : Prop := fnExactWordTextRow.holds Try.pinned (OpenSpec.ofChange fnExactWordTextWrong)

/-- 'laws.FnExactPacketRight': WHATEVER THE INPUT: true; the input reads as it did. -/
def fnExactPacketRightSpec : ChangeSpec := { name := "fnExactPacketRight", fn := fun _ => fun
  | [d] => { results := [.lit (.bool true)], args := [d] }
  | _ => none }
def fnExactPacketRightRow : OpenClaim := { program := "ytokjhfgbnpdfnaf", sum := "83a5196853a8f159e9d99881f727eeff6544bcb7086ac3775b83521657a4e9ad", func := "loop.example/g00542/laws.FnExactPacketRight", spec := "fnExactPacketRight", unfollowed := true, recurses := true, apart := false }
def FnExactPacketRightSaid : Prop := fnExactPacketRightRow.holds Try.pinned (OpenSpec.ofChange fnExactPacketRightSpec)

/-- ITS FALSE NEIGHBOUR: 'it returns false'. Refute it at one input. -/
def fnExactPacketRightWrong : ChangeSpec := { name := "fnExactPacketRight", fn := fun _ => fun
  | [d] => { results := [.lit (.bool false)], args := [d] }
  | _ => none }
def FnExactPacketRightWrongFalsely : Prop := fnExactPacketRightRow.holds Try.pinned (OpenSpec.ofChange fnExactPacketRightWrong)

/-- 'laws.FnExactPacketBytes': WHATEVER THE INPUT: true; the input reads as it did. -/
def fnExactPacketBytesSpec : ChangeSpec := { name := "fnExactPacketBytes", fn := fun _ => fun
  | [d] => { results := [.lit (.bool true)], args := [d] }
  | _ => none }
def fnExactPacketBytesRow : OpenClaim := { program := "ytokjhfgbnpdfnaf", sum := "83a5196853a8f159e9d99881f727eeff6544bcb7086ac3775b83521657a4e9ad", func := "loop.example/g00542/laws.FnExactPacketBytes", spec := "fnExactPacketBytes", unfollowed := true, recurses := true, apart := false }
def FnExactPacketBytesSaid : Prop := fnExactPacketBytesRow.holds Try.pinned (OpenSpec.ofChange fnExactPacketBytesSpec)

/-- ITS FALSE NEIGHBOUR: 'it returns false'. Refute it at one input. -/
def fnExactPacketBytesWrong : ChangeSpec := { name := "fnExactPacketBytes", fn := fun _ => fun
  | [d] => { results := [.lit (.bool false)], args := [d] }
  | _ => none }
def FnExactPacketBytesWrongFalsely : Prop := fnExactPacketBytesRow.holds Try.pinned (OpenSpec.ofChange fnExactPacketBytesWrong)

/- THE SECOND FORM. 'bulk': how many values and letters a reading holds, each counted each time it is reached (what is shared counts as often as it is met; a slice's spare places count too). A statement '..UptoSaid' is the law's where the arguments, and the package variables that the reading takes, are together of bulk at most 1048576: NARROWER than '..Said'. Prove '..Said' where nothing that the law and all that it calls make is longer than what came in: it says more and counts as full. Else prove '..UptoSaid'. A law counts once. -/
mutual
def uptoBulk {H : Type} : DataW H → Nat
  | .lit (.string bytes) => bytes.length + 1
  | .lit _ => 1
  | .nil => 1
  | .ptr d => uptoBulk d + 1
  | .slice elems spare => uptoBulkAll elems + uptoBulkAll spare + 1
  | .agg parts => uptoBulkAll parts + 1
  | .iface _ d => uptoBulk d + 1
  | .map entries => uptoBulkEntries entries + 1
  | .held _ => 1
def uptoBulkAll {H : Type} : List (DataW H) → Nat
  | [] => 0
  | d :: r => uptoBulk d + uptoBulkAll r
def uptoBulkEntries {H : Type} : List (Lit × DataW H) → Nat
  | [] => 0
  | x :: r => uptoBulkEntry x + uptoBulkEntries r
def uptoBulkEntry {H : Type} : Lit × DataW H → Nat
  | (.string bytes, d) => bytes.length + uptoBulk d + 1
  | (_, d) => uptoBulk d + 1
 end
def uptoSmall : (H : Type) → List (DataW H) → Bool := fun _ ds => decide (uptoBulkAll ds ≤ 1048576)
def OpenSpec.upto (s : _root_.Go.ChangeSpec) : _root_.Go.OpenSpec := { _root_.Go.OpenSpec.ofChange s with cond := some uptoSmall }

/-- 'laws.FnExactCheckTurn', WHERE WHAT IT READS IS OF BULK AT MOST 1048576: true; the input reads as it did. -/
def fnExactCheckTurnUptoRow : OpenClaim := { program := "ytokjhfgbnpdfnaf", sum := "83a5196853a8f159e9d99881f727eeff6544bcb7086ac3775b83521657a4e9ad", func := "loop.example/g00542/laws.FnExactCheckTurn", spec := "fnExactCheckTurn", apart := false, narrowed := true }
def FnExactCheckTurnUptoSaid : Prop := fnExactCheckTurnUptoRow.holds Try.pinned (OpenSpec.upto fnExactCheckTurnSpec)

/-- 'laws.FnExactWordText', WHERE WHAT IT READS IS OF BULK AT MOST 1048576: true; the input reads as it did. -/
def fnExactWordTextUptoRow : OpenClaim := { program := "ytokjhfgbnpdfnaf", sum := "83a5196853a8f159e9d99881f727eeff6544bcb7086ac3775b83521657a4e9ad", func := "loop.example/g00542/laws.FnExactWordText", spec := "fnExactWordText", apart := false, narrowed := true }
def FnExactWordTextUptoSaid : Prop := fnExactWordTextUptoRow.holds Try.pinned (OpenSpec.upto fnExactWordTextSpec)

/-- 'laws.FnExactPacketRight', WHERE WHAT IT READS IS OF BULK AT MOST 1048576: true; the input reads as it did. -/
def fnExactPacketRightUptoRow : OpenClaim := { program := "ytokjhfgbnpdfnaf", sum := "83a5196853a8f159e9d99881f727eeff6544bcb7086ac3775b83521657a4e9ad", func := "loop.example/g00542/laws.FnExactPacketRight", spec := "fnExactPacketRight", unfollowed := true, recurses := true, apart := false, narrowed := true }
def FnExactPacketRightUptoSaid : Prop := fnExactPacketRightUptoRow.holds Try.pinned (OpenSpec.upto fnExactPacketRightSpec)

/-- 'laws.FnExactPacketBytes', WHERE WHAT IT READS IS OF BULK AT MOST 1048576: true; the input reads as it did. -/
def fnExactPacketBytesUptoRow : OpenClaim := { program := "ytokjhfgbnpdfnaf", sum := "83a5196853a8f159e9d99881f727eeff6544bcb7086ac3775b83521657a4e9ad", func := "loop.example/g00542/laws.FnExactPacketBytes", spec := "fnExactPacketBytes", unfollowed := true, recurses := true, apart := false, narrowed := true }
def FnExactPacketBytesUptoSaid : Prop := fnExactPacketBytesUptoRow.holds Try.pinned (OpenSpec.upto fnExactPacketBytesSpec)

end Rows
end Go.Proofs.Ytokjhfgbnpdfnaf
