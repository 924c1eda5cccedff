/-
  DERIVED. GIVEN WITH THE SEED: THE CARDS: each row of YtgbdfpapnpjhcaaDoorRows.lean that lists a variable, with what it lists TIED to the program's text (the seventh form; the later family's looks); each row that meets fmt, with fmt's text TOLD by the authors' own Lean function (tested against real Go, not proved from fmt's source: count such statements apart). THE CARD IS WHAT COUNTS. Prove the row's statement (the work); the ties are given (YtgbdfpapnpjhcaaDoorTie.lean); close each card by the builder's one call (the guide's Derived/Test/ToyasCard.lean, 'card_holds'). Laid BY PROGRAM, IN A SANDBOX (cutbox-door.mjs). By AI agents, Wed Nov 11 2026. No macro, syntax, notation, axiom, sorry.
-/
import Derived.Test.YtgbdfpapnpjhcaaDoorRows
import GoSem.ClaimSeven
namespace Go.Proofs.YtgbdfpapnpjhcaaDoor
namespace Rows

/-- THE TIED CARD OF 'lithophanelaw02.ExactMoved'. -/
def exactMovedCard : Claim7 := { stood := { row := exactMovedRow, standIns := [], harness := (true, "7e6bbb0855120e223d30faecec846778a551f21c952a4e586694f314dfeab299"), looks := false }, kinds := [], alts := [], laidByText := true, laidKinds := [.data, .pinned], laidTests := true, laidLooks := .later }
def ExactMovedCardSaid : Prop := Claim7.holds Tryd.pinned (.plain (OpenSpec.ofChange exactMovedSpec)) exactMovedCard

/-- THE TIED CARD OF 'lithophanelaw02.ExactOrders'. -/
def exactOrdersCard : Claim7 := { stood := { row := exactOrdersRow, standIns := [], harness := (true, "7e6bbb0855120e223d30faecec846778a551f21c952a4e586694f314dfeab299"), looks := false }, kinds := [], alts := [], laidByText := true, laidKinds := [.data, .pinned], laidTests := true, laidLooks := .later }
def ExactOrdersCardSaid : Prop := Claim7.holds Tryd.pinned (.plain (OpenSpec.ofChange exactOrdersSpec)) exactOrdersCard

/-- THE TIED CARD OF 'lithophanelaw02.ExactInside'. -/
def exactInsideCard : Claim7 := { stood := { row := exactInsideRow, standIns := [], harness := (true, "7e6bbb0855120e223d30faecec846778a551f21c952a4e586694f314dfeab299"), looks := false }, kinds := [], alts := [], laidByText := true, laidKinds := [.data, .pinned], laidTests := true, laidLooks := .later }
def ExactInsideCardSaid : Prop := Claim7.holds Tryd.pinned (.plain (OpenSpec.ofChange exactInsideSpec)) exactInsideCard

/-- THE TIED CARD OF 'lithophanelaw02.ExactNormals'. -/
def exactNormalsCard : Claim7 := { stood := { row := exactNormalsRow, standIns := [], harness := (true, "7e6bbb0855120e223d30faecec846778a551f21c952a4e586694f314dfeab299"), looks := false }, kinds := [], alts := [], laidByText := true, laidKinds := [.data, .pinned], laidTests := true, laidLooks := .later }
def ExactNormalsCardSaid : Prop := Claim7.holds Tryd.pinned (.plain (OpenSpec.ofChange exactNormalsSpec)) exactNormalsCard

/-- THE TIED CARD OF 'lithophanelaw02.ExactDistances'. -/
def exactDistancesCard : Claim7 := { stood := { row := exactDistancesRow, standIns := [], harness := (true, "7e6bbb0855120e223d30faecec846778a551f21c952a4e586694f314dfeab299"), looks := false }, kinds := [], alts := [], laidByText := true, laidKinds := [.data, .pinned], laidTests := true, laidLooks := .later }
def ExactDistancesCardSaid : Prop := Claim7.holds Tryd.pinned (.plain (OpenSpec.ofChange exactDistancesSpec)) exactDistancesCard

/-- THE SECOND FORM's CARD OF 'lithophanelaw02.ExactMoved'. -/
def exactMovedUptoCard : Claim7 := { stood := { row := exactMovedUptoRow, standIns := [], harness := (true, "7e6bbb0855120e223d30faecec846778a551f21c952a4e586694f314dfeab299"), looks := false }, kinds := [], alts := [], laidByText := true, laidKinds := [.data, .pinned], laidTests := true, laidLooks := .later }
def ExactMovedUptoCardSaid : Prop := Claim7.holds Tryd.pinned (.plain (OpenSpec.upto exactMovedSpec)) exactMovedUptoCard

/-- THE SECOND FORM's CARD OF 'lithophanelaw02.ExactOrders'. -/
def exactOrdersUptoCard : Claim7 := { stood := { row := exactOrdersUptoRow, standIns := [], harness := (true, "7e6bbb0855120e223d30faecec846778a551f21c952a4e586694f314dfeab299"), looks := false }, kinds := [], alts := [], laidByText := true, laidKinds := [.data, .pinned], laidTests := true, laidLooks := .later }
def ExactOrdersUptoCardSaid : Prop := Claim7.holds Tryd.pinned (.plain (OpenSpec.upto exactOrdersSpec)) exactOrdersUptoCard

/-- THE SECOND FORM's CARD OF 'lithophanelaw02.ExactInside'. -/
def exactInsideUptoCard : Claim7 := { stood := { row := exactInsideUptoRow, standIns := [], harness := (true, "7e6bbb0855120e223d30faecec846778a551f21c952a4e586694f314dfeab299"), looks := false }, kinds := [], alts := [], laidByText := true, laidKinds := [.data, .pinned], laidTests := true, laidLooks := .later }
def ExactInsideUptoCardSaid : Prop := Claim7.holds Tryd.pinned (.plain (OpenSpec.upto exactInsideSpec)) exactInsideUptoCard

/-- THE SECOND FORM's CARD OF 'lithophanelaw02.ExactNormals'. -/
def exactNormalsUptoCard : Claim7 := { stood := { row := exactNormalsUptoRow, standIns := [], harness := (true, "7e6bbb0855120e223d30faecec846778a551f21c952a4e586694f314dfeab299"), looks := false }, kinds := [], alts := [], laidByText := true, laidKinds := [.data, .pinned], laidTests := true, laidLooks := .later }
def ExactNormalsUptoCardSaid : Prop := Claim7.holds Tryd.pinned (.plain (OpenSpec.upto exactNormalsSpec)) exactNormalsUptoCard

/-- THE SECOND FORM's CARD OF 'lithophanelaw02.ExactDistances'. -/
def exactDistancesUptoCard : Claim7 := { stood := { row := exactDistancesUptoRow, standIns := [], harness := (true, "7e6bbb0855120e223d30faecec846778a551f21c952a4e586694f314dfeab299"), looks := false }, kinds := [], alts := [], laidByText := true, laidKinds := [.data, .pinned], laidTests := true, laidLooks := .later }
def ExactDistancesUptoCardSaid : Prop := Claim7.holds Tryd.pinned (.plain (OpenSpec.upto exactDistancesSpec)) exactDistancesUptoCard
end Rows
end Go.Proofs.YtgbdfpapnpjhcaaDoor
