/-
  DERIVED. GIVEN WITH THE SEED: THE CARDS: each row of YtandlbacjfdkpaaGreatDoorRows.lean that lists a variable, with what it lists TIED to the program's text (the seventh form; the later family's looks); each row that meets fmt, with fmt's text TOLD by the authors' own Lean function (tested against real Go, not proved from fmt's source: count such statements apart). THE CARD IS WHAT COUNTS. Prove the row's statement (the work); the ties are given (YtandlbacjfdkpaaGreatDoorTie.lean); close each card by the builder's one call (the guide's Derived/Test/ToyasCard.lean, 'card_holds'). Laid BY PROGRAM, IN A SANDBOX (cutbox-door.mjs). By AI agents, Wed Nov 11 2026. No macro, syntax, notation, axiom, sorry.
-/
import Derived.Test.YtandlbacjfdkpaaGreatDoorRows
import GoSem.ClaimSeven
namespace Go.Proofs.YtandlbacjfdkpaaGreatDoor
namespace Rows

/-- THE TIED CARD OF 'lithophanelaw02.ExactPoints'. -/
def exactPointsCard : Claim7 := { stood := { row := exactPointsRow, standIns := [], harness := (true, "d7f9a75d2c0c6fd00fe01380842ed85f704c419092dc33aadec732243eb77b93"), looks := false }, kinds := [], alts := [], laidByText := true, laidKinds := [.data, .pinned], laidTests := true, laidLooks := .later }
def ExactPointsCardSaid : Prop := Claim7.holds Tryz.pinned (.plain (OpenSpec.ofChange exactPointsSpec)) exactPointsCard

/-- THE TIED CARD OF 'lithophanelaw02.ExactGrid'. -/
def exactGridCard : Claim7 := { stood := { row := exactGridRow, standIns := [], harness := (true, "d7f9a75d2c0c6fd00fe01380842ed85f704c419092dc33aadec732243eb77b93"), looks := false }, kinds := [], alts := [], laidByText := true, laidKinds := [.data, .pinned], laidTests := true, laidLooks := .later }
def ExactGridCardSaid : Prop := Claim7.holds Tryz.pinned (.plain (OpenSpec.ofChange exactGridSpec)) exactGridCard

/-- THE TIED CARD OF 'lithophanelaw02.ExactTouches'. -/
def exactTouchesCard : Claim7 := { stood := { row := exactTouchesRow, standIns := [], harness := (true, "d7f9a75d2c0c6fd00fe01380842ed85f704c419092dc33aadec732243eb77b93"), looks := false }, kinds := [], alts := [], laidByText := true, laidKinds := [.data, .pinned], laidTests := true, laidLooks := .later }
def ExactTouchesCardSaid : Prop := Claim7.holds Tryz.pinned (.plain (OpenSpec.ofChange exactTouchesSpec)) exactTouchesCard

/-- THE TIED CARD OF 'lithophanelaw02.ExactMeets'. -/
def exactMeetsCard : Claim7 := { stood := { row := exactMeetsRow, standIns := [], harness := (true, "d7f9a75d2c0c6fd00fe01380842ed85f704c419092dc33aadec732243eb77b93"), looks := false }, kinds := [], alts := [], laidByText := true, laidKinds := [.data, .pinned], laidTests := true, laidLooks := .later }
def ExactMeetsCardSaid : Prop := Claim7.holds Tryz.pinned (.plain (OpenSpec.ofChange exactMeetsSpec)) exactMeetsCard

/-- THE TIED CARD OF 'lithophanelaw02.ExactShared'. -/
def exactSharedCard : Claim7 := { stood := { row := exactSharedRow, standIns := [], harness := (true, "d7f9a75d2c0c6fd00fe01380842ed85f704c419092dc33aadec732243eb77b93"), looks := false }, kinds := [], alts := [], laidByText := true, laidKinds := [.data, .pinned], laidTests := true, laidLooks := .later }
def ExactSharedCardSaid : Prop := Claim7.holds Tryz.pinned (.plain (OpenSpec.ofChange exactSharedSpec)) exactSharedCard

/-- THE SECOND FORM's CARD OF 'lithophanelaw02.ExactPoints'. -/
def exactPointsUptoCard : Claim7 := { stood := { row := exactPointsUptoRow, standIns := [], harness := (true, "d7f9a75d2c0c6fd00fe01380842ed85f704c419092dc33aadec732243eb77b93"), looks := false }, kinds := [], alts := [], laidByText := true, laidKinds := [.data, .pinned], laidTests := true, laidLooks := .later }
def ExactPointsUptoCardSaid : Prop := Claim7.holds Tryz.pinned (.plain (OpenSpec.upto exactPointsSpec)) exactPointsUptoCard

/-- THE SECOND FORM's CARD OF 'lithophanelaw02.ExactGrid'. -/
def exactGridUptoCard : Claim7 := { stood := { row := exactGridUptoRow, standIns := [], harness := (true, "d7f9a75d2c0c6fd00fe01380842ed85f704c419092dc33aadec732243eb77b93"), looks := false }, kinds := [], alts := [], laidByText := true, laidKinds := [.data, .pinned], laidTests := true, laidLooks := .later }
def ExactGridUptoCardSaid : Prop := Claim7.holds Tryz.pinned (.plain (OpenSpec.upto exactGridSpec)) exactGridUptoCard

/-- THE SECOND FORM's CARD OF 'lithophanelaw02.ExactTouches'. -/
def exactTouchesUptoCard : Claim7 := { stood := { row := exactTouchesUptoRow, standIns := [], harness := (true, "d7f9a75d2c0c6fd00fe01380842ed85f704c419092dc33aadec732243eb77b93"), looks := false }, kinds := [], alts := [], laidByText := true, laidKinds := [.data, .pinned], laidTests := true, laidLooks := .later }
def ExactTouchesUptoCardSaid : Prop := Claim7.holds Tryz.pinned (.plain (OpenSpec.upto exactTouchesSpec)) exactTouchesUptoCard

/-- THE SECOND FORM's CARD OF 'lithophanelaw02.ExactMeets'. -/
def exactMeetsUptoCard : Claim7 := { stood := { row := exactMeetsUptoRow, standIns := [], harness := (true, "d7f9a75d2c0c6fd00fe01380842ed85f704c419092dc33aadec732243eb77b93"), looks := false }, kinds := [], alts := [], laidByText := true, laidKinds := [.data, .pinned], laidTests := true, laidLooks := .later }
def ExactMeetsUptoCardSaid : Prop := Claim7.holds Tryz.pinned (.plain (OpenSpec.upto exactMeetsSpec)) exactMeetsUptoCard

/-- THE SECOND FORM's CARD OF 'lithophanelaw02.ExactShared'. -/
def exactSharedUptoCard : Claim7 := { stood := { row := exactSharedUptoRow, standIns := [], harness := (true, "d7f9a75d2c0c6fd00fe01380842ed85f704c419092dc33aadec732243eb77b93"), looks := false }, kinds := [], alts := [], laidByText := true, laidKinds := [.data, .pinned], laidTests := true, laidLooks := .later }
def ExactSharedUptoCardSaid : Prop := Claim7.holds Tryz.pinned (.plain (OpenSpec.upto exactSharedSpec)) exactSharedUptoCard
end Rows
end Go.Proofs.YtandlbacjfdkpaaGreatDoor
