/-
  DERIVED. GIVEN WITH THE SEED: THE CARDS: each row of YtokjhfgbnpdfnahDoorRows.lean that lists a variable, with what it lists TIED to the program's text (the seventh form; the later family's looks); each row that meets fmt, with fmt's text TOLD by the authors' own Lean function (tested against real Go, not proved from fmt's source: count such statements apart). THE CARD IS WHAT COUNTS. Prove the row's statement (the work); the ties are given (YtokjhfgbnpdfnahDoorTie.lean); close each card by the builder's one call (the guide's Derived/Test/ToyasCard.lean, 'card_holds'). Laid BY PROGRAM, IN A SANDBOX (cutbox-door.mjs). By AI agents, Wed Nov 11 2026. No macro, syntax, notation, axiom, sorry.
-/
import Derived.Test.YtokjhfgbnpdfnahDoorRows
import GoSem.ClaimSeven
namespace Go.Proofs.YtokjhfgbnpdfnahDoor
namespace Rows

/-- THE TIED CARD OF 'laws.FnExactTupleText'. -/
def fnExactTupleTextCard : Claim7 := { stood := { row := fnExactTupleTextRow, standIns := [], harness := (true, "5a2cedda4c95c6f160dc6881961e6805c6fbacee73113973b1646e04aee29119"), looks := true }, kinds := [], alts := [], laidByText := true, laidKinds := [.data, .data, .data], laidTests := true, laidLooks := .later }
def FnExactTupleTextCardSaid : Prop := Claim7.holds Tryd.pinned (.plain (OpenSpec.ofChange fnExactTupleTextSpec)) fnExactTupleTextCard

/-- THE TIED CARD OF 'laws.FnExactTupleHash'. -/
def fnExactTupleHashCard : Claim7 := { stood := { row := fnExactTupleHashRow, standIns := [], harness := (true, "5a2cedda4c95c6f160dc6881961e6805c6fbacee73113973b1646e04aee29119"), looks := true }, kinds := [], alts := [], laidByText := true, laidKinds := [.data, .data, .data], laidTests := true, laidLooks := .later }
def FnExactTupleHashCardSaid : Prop := Claim7.holds Tryd.pinned (.plain (OpenSpec.ofChange fnExactTupleHashSpec)) fnExactTupleHashCard

/-- THE TIED CARD OF 'laws.FnExactWithTuple'. -/
def fnExactWithTupleCard : Claim7 := { stood := { row := fnExactWithTupleRow, standIns := [], harness := (true, "5a2cedda4c95c6f160dc6881961e6805c6fbacee73113973b1646e04aee29119"), looks := true }, kinds := [], alts := [], laidByText := true, laidKinds := [.sentinel, .sentinel, .sentinel, .sentinel], laidTests := true, laidLooks := .later }
def FnExactWithTupleCardSaid : Prop := Claim7.holds Tryd.pinned (.plain (OpenSpec.ofChange fnExactWithTupleSpec)) fnExactWithTupleCard

/-- THE SECOND FORM's CARD OF 'laws.FnExactTupleText'. -/
def fnExactTupleTextUptoCard : Claim7 := { stood := { row := fnExactTupleTextUptoRow, standIns := [], harness := (true, "5a2cedda4c95c6f160dc6881961e6805c6fbacee73113973b1646e04aee29119"), looks := true }, kinds := [], alts := [], laidByText := true, laidKinds := [.data, .data, .data], laidTests := true, laidLooks := .later }
def FnExactTupleTextUptoCardSaid : Prop := Claim7.holds Tryd.pinned (.plain (OpenSpec.upto fnExactTupleTextSpec)) fnExactTupleTextUptoCard

/-- THE SECOND FORM's CARD OF 'laws.FnExactTupleHash'. -/
def fnExactTupleHashUptoCard : Claim7 := { stood := { row := fnExactTupleHashUptoRow, standIns := [], harness := (true, "5a2cedda4c95c6f160dc6881961e6805c6fbacee73113973b1646e04aee29119"), looks := true }, kinds := [], alts := [], laidByText := true, laidKinds := [.data, .data, .data], laidTests := true, laidLooks := .later }
def FnExactTupleHashUptoCardSaid : Prop := Claim7.holds Tryd.pinned (.plain (OpenSpec.upto fnExactTupleHashSpec)) fnExactTupleHashUptoCard

/-- THE SECOND FORM's CARD OF 'laws.FnExactWithTuple'. -/
def fnExactWithTupleUptoCard : Claim7 := { stood := { row := fnExactWithTupleUptoRow, standIns := [], harness := (true, "5a2cedda4c95c6f160dc6881961e6805c6fbacee73113973b1646e04aee29119"), looks := true }, kinds := [], alts := [], laidByText := true, laidKinds := [.sentinel, .sentinel, .sentinel, .sentinel], laidTests := true, laidLooks := .later }
def FnExactWithTupleUptoCardSaid : Prop := Claim7.holds Tryd.pinned (.plain (OpenSpec.upto fnExactWithTupleSpec)) fnExactWithTupleUptoCard
end Rows
end Go.Proofs.YtokjhfgbnpdfnahDoor
