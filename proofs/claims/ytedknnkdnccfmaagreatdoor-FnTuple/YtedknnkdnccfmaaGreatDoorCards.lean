/-
  DERIVED. GIVEN WITH THE SEED: THE CARDS: each row of YtedknnkdnccfmaaGreatDoorRows.lean that lists a variable, with what it lists TIED to the program's text (the seventh form; the later family's looks); each row that meets fmt, with fmt's text TOLD by the authors' own Lean function (tested against real Go, not proved from fmt's source: count such statements apart). THE CARD IS WHAT COUNTS. Prove the row's statement (the work); the ties are given (YtedknnkdnccfmaaGreatDoorTie.lean); close each card by the builder's one call (the guide's Derived/Test/ToyasCard.lean, 'card_holds'). Laid BY PROGRAM, IN A SANDBOX (cutbox-door.mjs). By AI agents, Wed Nov 11 2026. No macro, syntax, notation, axiom, sorry.
-/
import Derived.Test.YtedknnkdnccfmaaGreatDoorRows
import GoSem.ClaimSeven
namespace Go.Proofs.YtedknnkdnccfmaaGreatDoor
namespace Rows

/-- THE TIED CARD OF 'laws.FnPacket'. -/
def fnPacketCard : Claim7 := { stood := { row := fnPacketRow, standIns := [], harness := (true, "96f19c8fe9ca7f1801e9ea91394114bee18372af610e8a7d9f342fddc5fdd134"), looks := true }, kinds := [], alts := [], laidByText := true, laidKinds := [.data, .data, .data, .data, .sentinel, .sentinel, .sentinel, .sentinel, .sentinel, .sentinel, .pinned], laidTests := true, laidLooks := .later }
def FnPacketCardSaid : Prop := Claim7.holds Tryz.pinned (.plain (OpenSpec.ofChange fnPacketSpec)) fnPacketCard

/-- THE TIED CARD OF 'laws.FnTuple'. -/
def fnTupleCard : Claim7 := { stood := { row := fnTupleRow, standIns := [], harness := (true, "96f19c8fe9ca7f1801e9ea91394114bee18372af610e8a7d9f342fddc5fdd134"), looks := true }, kinds := [], alts := [], laidByText := true, laidKinds := [.data, .data, .data, .sentinel, .sentinel, .sentinel, .sentinel], laidTests := true, laidLooks := .later }
def FnTupleCardSaid : Prop := Claim7.holds Tryz.pinned (.plain (OpenSpec.ofChange fnTupleSpec)) fnTupleCard

/-- THE SECOND FORM's CARD OF 'laws.FnPacket'. -/
def fnPacketUptoCard : Claim7 := { stood := { row := fnPacketUptoRow, standIns := [], harness := (true, "96f19c8fe9ca7f1801e9ea91394114bee18372af610e8a7d9f342fddc5fdd134"), looks := true }, kinds := [], alts := [], laidByText := true, laidKinds := [.data, .data, .data, .data, .sentinel, .sentinel, .sentinel, .sentinel, .sentinel, .sentinel, .pinned], laidTests := true, laidLooks := .later }
def FnPacketUptoCardSaid : Prop := Claim7.holds Tryz.pinned (.plain (OpenSpec.upto fnPacketSpec)) fnPacketUptoCard

/-- THE SECOND FORM's CARD OF 'laws.FnTuple'. -/
def fnTupleUptoCard : Claim7 := { stood := { row := fnTupleUptoRow, standIns := [], harness := (true, "96f19c8fe9ca7f1801e9ea91394114bee18372af610e8a7d9f342fddc5fdd134"), looks := true }, kinds := [], alts := [], laidByText := true, laidKinds := [.data, .data, .data, .sentinel, .sentinel, .sentinel, .sentinel], laidTests := true, laidLooks := .later }
def FnTupleUptoCardSaid : Prop := Claim7.holds Tryz.pinned (.plain (OpenSpec.upto fnTupleSpec)) fnTupleUptoCard
end Rows
end Go.Proofs.YtedknnkdnccfmaaGreatDoor
