/-
  DERIVED. GIVEN WITH THE SEED: THE CARDS: each row of YtpedbahppkimbaaDoorRows.lean that lists a variable, with what it lists TIED to the program's text (the seventh form; the later family's looks); each row that meets fmt, with fmt's text TOLD by the authors' own Lean function (tested against real Go, not proved from fmt's source: count such statements apart). THE CARD IS WHAT COUNTS. Prove the row's statement (the work); the ties are given (YtpedbahppkimbaaDoorTie.lean); close each card by the builder's one call (the guide's Derived/Test/ToyasCard.lean, 'card_holds'). Laid BY PROGRAM, IN A SANDBOX (cutbox-door.mjs). By AI agents, Wed Nov 11 2026. No macro, syntax, notation, axiom, sorry.
-/
import Derived.Test.YtpedbahppkimbaaDoorRows
import GoSem.ClaimSeven
namespace Go.Proofs.YtpedbahppkimbaaDoor
namespace Rows

/-- THE TIED CARD OF 'lithophanelaw02.ExactInside'. -/
def exactInsideCard : Claim7 := { stood := { row := exactInsideRow, standIns := [], harness := (true, "927f373a501aa182d3e7a302f97a49ada46d439e4a7099d34ab195963e860dc9"), looks := false }, kinds := [], alts := [], laidByText := true, laidKinds := [.data, .pinned], laidTests := true, laidLooks := .later }
def ExactInsideCardSaid : Prop := Claim7.holds Tryd.pinned (.plain (OpenSpec.ofChange exactInsideSpec)) exactInsideCard

/-- THE SECOND FORM's CARD OF 'lithophanelaw02.ExactInside'. -/
def exactInsideUptoCard : Claim7 := { stood := { row := exactInsideUptoRow, standIns := [], harness := (true, "927f373a501aa182d3e7a302f97a49ada46d439e4a7099d34ab195963e860dc9"), looks := false }, kinds := [], alts := [], laidByText := true, laidKinds := [.data, .pinned], laidTests := true, laidLooks := .later }
def ExactInsideUptoCardSaid : Prop := Claim7.holds Tryd.pinned (.plain (OpenSpec.upto exactInsideSpec)) exactInsideUptoCard
end Rows
end Go.Proofs.YtpedbahppkimbaaDoor
