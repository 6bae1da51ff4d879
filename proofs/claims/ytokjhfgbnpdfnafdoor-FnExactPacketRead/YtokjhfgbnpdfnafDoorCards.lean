/-
  DERIVED. GIVEN WITH THE SEED: THE CARDS: each row of YtokjhfgbnpdfnafDoorRows.lean that lists a variable, with what it lists TIED to the program's text (the seventh form; the later family's looks); each row that meets fmt, with fmt's text TOLD by the authors' own Lean function (tested against real Go, not proved from fmt's source: count such statements apart). THE CARD IS WHAT COUNTS. Prove the row's statement (the work); the ties are given (YtokjhfgbnpdfnafDoorTie.lean); close each card by the builder's one call (the guide's Derived/Test/ToyasCard.lean, 'card_holds'). Laid BY PROGRAM, IN A SANDBOX (cutbox-door.mjs). By AI agents, Wed Nov 11 2026. No macro, syntax, notation, axiom, sorry.
-/
import Derived.Test.YtokjhfgbnpdfnafDoorRows
import GoSem.ClaimSeven
namespace Go.Proofs.YtokjhfgbnpdfnafDoor
namespace Rows

/-- THE TIED CARD OF 'laws.FnExactPacketRead'. -/
def fnExactPacketReadCard : Claim7 := { stood := { row := fnExactPacketReadRow, standIns := [], harness := (true, "836a7c13c6ad370b42da2f9494226c8130ebad2f8270b96b6adcefb7548dfc63"), looks := true }, kinds := [], alts := [], laidByText := true, laidKinds := [.sentinel, .sentinel, .sentinel, .sentinel], laidTests := true, laidLooks := .later }
def FnExactPacketReadCardSaid : Prop := Claim7.holds Tryd.pinned (.plain (OpenSpec.ofChange fnExactPacketReadSpec)) fnExactPacketReadCard

/-- THE TIED CARD OF 'laws.FnExactAddrText'. -/
def fnExactAddrTextCard : Claim7 := { stood := { row := fnExactAddrTextRow, standIns := [], harness := (true, "836a7c13c6ad370b42da2f9494226c8130ebad2f8270b96b6adcefb7548dfc63"), looks := true }, kinds := [], alts := [], laidByText := true, laidKinds := [.data, .data, .data], laidTests := true, laidLooks := .later }
def FnExactAddrTextCardSaid : Prop := Claim7.holds Tryd.pinned (.plain (OpenSpec.ofChange fnExactAddrTextSpec)) fnExactAddrTextCard

/-- THE SECOND FORM's CARD OF 'laws.FnExactPacketRead'. -/
def fnExactPacketReadUptoCard : Claim7 := { stood := { row := fnExactPacketReadUptoRow, standIns := [], harness := (true, "836a7c13c6ad370b42da2f9494226c8130ebad2f8270b96b6adcefb7548dfc63"), looks := true }, kinds := [], alts := [], laidByText := true, laidKinds := [.sentinel, .sentinel, .sentinel, .sentinel], laidTests := true, laidLooks := .later }
def FnExactPacketReadUptoCardSaid : Prop := Claim7.holds Tryd.pinned (.plain (OpenSpec.upto fnExactPacketReadSpec)) fnExactPacketReadUptoCard

/-- THE SECOND FORM's CARD OF 'laws.FnExactAddrText'. -/
def fnExactAddrTextUptoCard : Claim7 := { stood := { row := fnExactAddrTextUptoRow, standIns := [], harness := (true, "836a7c13c6ad370b42da2f9494226c8130ebad2f8270b96b6adcefb7548dfc63"), looks := true }, kinds := [], alts := [], laidByText := true, laidKinds := [.data, .data, .data], laidTests := true, laidLooks := .later }
def FnExactAddrTextUptoCardSaid : Prop := Claim7.holds Tryd.pinned (.plain (OpenSpec.upto fnExactAddrTextSpec)) fnExactAddrTextUptoCard
end Rows
end Go.Proofs.YtokjhfgbnpdfnafDoor
