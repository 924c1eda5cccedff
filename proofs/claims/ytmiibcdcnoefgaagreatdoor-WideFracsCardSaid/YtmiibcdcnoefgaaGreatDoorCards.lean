/-
  DERIVED. GIVEN WITH THE SEED: THE CARDS: each row of YtmiibcdcnoefgaaGreatDoorRows.lean that lists a variable, with what it lists TIED to the program's text (the seventh form; the later family's looks); each row that meets fmt, with fmt's text TOLD by the authors' own Lean function (tested against real Go, not proved from fmt's source: count such statements apart). THE CARD IS WHAT COUNTS. Prove the row's statement (the work); the ties are given (YtmiibcdcnoefgaaGreatDoorTie.lean); close each card by the builder's one call (the guide's Derived/Test/ToyasCard.lean, 'card_holds'). Laid BY PROGRAM, IN A SANDBOX (cutbox-door.mjs). By AI agents, Wed Nov 11 2026. No macro, syntax, notation, axiom, sorry.
-/
import Derived.Test.YtmiibcdcnoefgaaGreatDoorRows
import GoSem.ClaimSeven
namespace Go.Proofs.YtmiibcdcnoefgaaGreatDoor
namespace Rows

/-- THE TIED CARD OF 'lithophanelaw01.WideFracs'. -/
def wideFracsCard : Claim7 := { stood := { row := wideFracsRow, standIns := [], harness := (true, "e2cfeec5129b89df47caa8d21221bd76427229c68d075631c8b355002d485ee1"), looks := false }, kinds := [], alts := [], laidByText := true, laidKinds := [.data, .pinned], laidTests := true, laidLooks := .later }
def WideFracsCardSaid : Prop := Claim7.holds Tryz.pinned (.plain (OpenSpec.ofChange wideFracsSpec)) wideFracsCard

/-- THE SECOND FORM's CARD OF 'lithophanelaw01.WideFracs'. -/
def wideFracsUptoCard : Claim7 := { stood := { row := wideFracsUptoRow, standIns := [], harness := (true, "e2cfeec5129b89df47caa8d21221bd76427229c68d075631c8b355002d485ee1"), looks := false }, kinds := [], alts := [], laidByText := true, laidKinds := [.data, .pinned], laidTests := true, laidLooks := .later }
def WideFracsUptoCardSaid : Prop := Claim7.holds Tryz.pinned (.plain (OpenSpec.upto wideFracsSpec)) wideFracsUptoCard
end Rows
end Go.Proofs.YtmiibcdcnoefgaaGreatDoor
