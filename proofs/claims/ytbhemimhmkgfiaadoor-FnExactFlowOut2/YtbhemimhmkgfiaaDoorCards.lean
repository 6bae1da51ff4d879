/-
  DERIVED. GIVEN WITH THE SEED: THE CARDS: each row of YtbhemimhmkgfiaaDoorRows.lean that lists a variable, with what it lists TIED to the program's text (the seventh form; the later family's looks); each row that meets fmt, with fmt's text TOLD by the authors' own Lean function (tested against real Go, not proved from fmt's source: count such statements apart). THE CARD IS WHAT COUNTS. Prove the row's statement (the work); the ties are given (YtbhemimhmkgfiaaDoorTie.lean); close each card by the builder's one call (the guide's Derived/Test/ToyasCard.lean, 'card_holds'). Laid BY PROGRAM, IN A SANDBOX (cutbox-door.mjs). By AI agents, Wed Nov 11 2026. No macro, syntax, notation, axiom, sorry.
-/
import Derived.Test.YtbhemimhmkgfiaaDoorRows
import GoSem.ClaimSeven
namespace Go.Proofs.YtbhemimhmkgfiaaDoor
namespace Rows

/-- THE TIED CARD OF 'laws.FnExactFlowOut2'. -/
def fnExactFlowOut2Card : Claim7 := { stood := { row := fnExactFlowOut2Row, standIns := [], harness := (true, "7d6e0dfce385563765a8dc672c2fd5bedebfb490a544790f55dcc20089488bdf"), looks := true }, kinds := [], alts := [], laidByText := true, laidKinds := [.sentinel, .sentinel, .sentinel, .sentinel], laidTests := true, laidLooks := .later }
def FnExactFlowOut2CardSaid : Prop := Claim7.holds Tryd.pinned (.plain (OpenSpec.ofChange fnExactFlowOut2Spec)) fnExactFlowOut2Card

/-- THE TIED CARD OF 'laws.FnExactFlowText'. -/
def fnExactFlowTextCard : Claim7 := { stood := { row := fnExactFlowTextRow, standIns := [], harness := (true, "7d6e0dfce385563765a8dc672c2fd5bedebfb490a544790f55dcc20089488bdf"), looks := true }, kinds := [], alts := [], laidByText := true, laidKinds := [.data, .data, .data], laidTests := true, laidLooks := .later }
def FnExactFlowTextCardSaid : Prop := Claim7.holds Tryd.pinned (.plain (OpenSpec.ofChange fnExactFlowTextSpec)) fnExactFlowTextCard

/-- THE SECOND FORM's CARD OF 'laws.FnExactFlowOut2'. -/
def fnExactFlowOut2UptoCard : Claim7 := { stood := { row := fnExactFlowOut2UptoRow, standIns := [], harness := (true, "7d6e0dfce385563765a8dc672c2fd5bedebfb490a544790f55dcc20089488bdf"), looks := true }, kinds := [], alts := [], laidByText := true, laidKinds := [.sentinel, .sentinel, .sentinel, .sentinel], laidTests := true, laidLooks := .later }
def FnExactFlowOut2UptoCardSaid : Prop := Claim7.holds Tryd.pinned (.plain (OpenSpec.upto fnExactFlowOut2Spec)) fnExactFlowOut2UptoCard

/-- THE SECOND FORM's CARD OF 'laws.FnExactFlowText'. -/
def fnExactFlowTextUptoCard : Claim7 := { stood := { row := fnExactFlowTextUptoRow, standIns := [], harness := (true, "7d6e0dfce385563765a8dc672c2fd5bedebfb490a544790f55dcc20089488bdf"), looks := true }, kinds := [], alts := [], laidByText := true, laidKinds := [.data, .data, .data], laidTests := true, laidLooks := .later }
def FnExactFlowTextUptoCardSaid : Prop := Claim7.holds Tryd.pinned (.plain (OpenSpec.upto fnExactFlowTextSpec)) fnExactFlowTextUptoCard
end Rows
end Go.Proofs.YtbhemimhmkgfiaaDoor
