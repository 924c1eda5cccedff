/-
  NARROWER THAN 'FOR EVERY INPUT', by the rows' own cells (each row's printed sentence says how): ExactPoints: laid · ExactGrid: laid · ExactTouches: laid · ExactMeets: laid · ExactShared: laid.
  DERIVED. THE GIVEN ROWS OF THIS SEAT. 5 by the template 'for every input the law returns true; each argument reads behind the call as it read before'; 0 by the template 'total and deterministic' (their statements: YtandlbacjfdkpaaGreatDoorTotals.lean).
  GIVEN WITH THE SEED: the statements are not yours to turn. If you find one false, say at which input.
  Laid BY PROGRAM, IN A SANDBOX (cutbox-rows.mjs): the forced cells as the released guide's own fill.sh prints them over the translation 6e00a132a69fb345… (all of the seat's roots in one cut). By AI agents, Wed Nov 11 2026. No macro, syntax, notation, axiom, sorry.
-/
import Derived.Test.YtandlbacjfdkpaaGreatDoorChecked
import GoSem.PinnedTables
import GoSem.Claim
import GoSem.ClaimJoined
import GoSem.ClaimMapViews
import Derived.JoinedTies
import Derived.KernelRfl
namespace Go.Proofs.YtandlbacjfdkpaaGreatDoor
/- THE CELL 'sum', in the pinned program and in every row, IS THE sha256 OF THE DUMP (.gsa) THAT YtandlbacjfdkpaaGreatDoorProg.lean LOADS. Nothing in Lean hashes anything: it is a label: what it is worth is what the hold of that sum in a sandbox is worth. -/
noncomputable def Tryz.pinned : Pinned := { name := "ytandlbacjfdkpaagreatdoor", sum := "6e00a132a69fb345672cd8815c90051e1b6366d1f24deeabd2828f9ca980638f", checked := Tryz.checked }
namespace Rows
def none {H : Type} : Left H := { results := [], args := [] }

/- WHAT THE LISTED PACKAGE-LEVEL VARIABLES READ AS WHEN THE CALL BEGINS. Each datum BY PROGRAM (the guide's laid-datum.mjs) off the statement by which the dump's own 'gosem.cut.vars' lays the variable. In a bare row this is a premise. The card (YtandlbacjfdkpaaGreatDoorCards.lean) ties it to the program's text. -/
def laid_unicode_utf8_acceptRanges {H : Type} : DataW H := .agg [.agg [.lit (.int .u8 128), .lit (.int .u8 191)], .agg [.lit (.int .u8 160), .lit (.int .u8 191)], .agg [.lit (.int .u8 128), .lit (.int .u8 159)], .agg [.lit (.int .u8 144), .lit (.int .u8 191)], .agg [.lit (.int .u8 128), .lit (.int .u8 143)], .agg [.lit (.int .u8 0), .lit (.int .u8 0)], .agg [.lit (.int .u8 0), .lit (.int .u8 0)], .agg [.lit (.int .u8 0), .lit (.int .u8 0)], .agg [.lit (.int .u8 0), .lit (.int .u8 0)], .agg [.lit (.int .u8 0), .lit (.int .u8 0)], .agg [.lit (.int .u8 0), .lit (.int .u8 0)], .agg [.lit (.int .u8 0), .lit (.int .u8 0)], .agg [.lit (.int .u8 0), .lit (.int .u8 0)], .agg [.lit (.int .u8 0), .lit (.int .u8 0)], .agg [.lit (.int .u8 0), .lit (.int .u8 0)], .agg [.lit (.int .u8 0), .lit (.int .u8 0)]]
/-- One of Go's own tables, pinned by name: the form's constant. -/
def laid_unicode_utf8_first : DataW Unit := Go.Pinned.utf8First

/-- 'lithophanelaw02.ExactPoints': WHATEVER THE INPUT: true; the input reads as it did. -/
def exactPointsSpec : ChangeSpec := { name := "exactPoints", fn := fun _ => fun
  | [d1, d2, d3] => { results := [.lit (.bool true)], args := [d1, d2, d3] }
  | _ => none }
def exactPointsRow : OpenClaim := { program := "ytandlbacjfdkpaagreatdoor", sum := "6e00a132a69fb345672cd8815c90051e1b6366d1f24deeabd2828f9ca980638f", func := "lithophane/lithophanelaw02.ExactPoints", spec := "exactPoints", inPlace := ["internal/bytealg.IndexByteString", "internal/bytealg.IndexString", "math/bits.Add64", "math/bits.Sub64"], unfollowed := true, recurses := true, named := ["unicode/utf8.first", "unicode/utf8.acceptRanges", "internal/bytealg.MaxLen"], apart := false, laid := [("unicode/utf8.acceptRanges", laid_unicode_utf8_acceptRanges), ("unicode/utf8.first", laid_unicode_utf8_first)] }
def ExactPointsSaid : Prop := exactPointsRow.holds Tryz.pinned (OpenSpec.ofChange exactPointsSpec)

/-- ITS FALSE NEIGHBOUR: 'it returns false'. Refute it at one input. -/
def exactPointsWrong : ChangeSpec := { name := "exactPoints", fn := fun _ => fun
  | [d1, d2, d3] => { results := [.lit (.bool false)], args := [d1, d2, d3] }
  | _ => none }
def ExactPointsWrongFalsely : Prop := exactPointsRow.holds Tryz.pinned (OpenSpec.ofChange exactPointsWrong)

/-- 'lithophanelaw02.ExactGrid': WHATEVER THE INPUT: true; the input reads as it did. -/
def exactGridSpec : ChangeSpec := { name := "exactGrid", fn := fun _ => fun
  | [d1, d2, d3] => { results := [.lit (.bool true)], args := [d1, d2, d3] }
  | _ => none }
def exactGridRow : OpenClaim := { program := "ytandlbacjfdkpaagreatdoor", sum := "6e00a132a69fb345672cd8815c90051e1b6366d1f24deeabd2828f9ca980638f", func := "lithophane/lithophanelaw02.ExactGrid", spec := "exactGrid", inPlace := ["internal/bytealg.IndexByteString", "internal/bytealg.IndexString", "math/bits.Add64", "math/bits.Sub64"], unfollowed := true, recurses := true, named := ["unicode/utf8.first", "unicode/utf8.acceptRanges", "internal/bytealg.MaxLen"], apart := false, laid := [("unicode/utf8.acceptRanges", laid_unicode_utf8_acceptRanges), ("unicode/utf8.first", laid_unicode_utf8_first)] }
def ExactGridSaid : Prop := exactGridRow.holds Tryz.pinned (OpenSpec.ofChange exactGridSpec)

/-- ITS FALSE NEIGHBOUR: 'it returns false'. Refute it at one input. -/
def exactGridWrong : ChangeSpec := { name := "exactGrid", fn := fun _ => fun
  | [d1, d2, d3] => { results := [.lit (.bool false)], args := [d1, d2, d3] }
  | _ => none }
def ExactGridWrongFalsely : Prop := exactGridRow.holds Tryz.pinned (OpenSpec.ofChange exactGridWrong)

/-- 'lithophanelaw02.ExactTouches': WHATEVER THE INPUT: true; the input reads as it did. -/
def exactTouchesSpec : ChangeSpec := { name := "exactTouches", fn := fun _ => fun
  | [d1, d2, d3] => { results := [.lit (.bool true)], args := [d1, d2, d3] }
  | _ => none }
def exactTouchesRow : OpenClaim := { program := "ytandlbacjfdkpaagreatdoor", sum := "6e00a132a69fb345672cd8815c90051e1b6366d1f24deeabd2828f9ca980638f", func := "lithophane/lithophanelaw02.ExactTouches", spec := "exactTouches", inPlace := ["internal/bytealg.IndexByteString", "internal/bytealg.IndexString", "math/bits.Add64", "math/bits.Sub64"], unfollowed := true, recurses := true, named := ["unicode/utf8.first", "unicode/utf8.acceptRanges", "internal/bytealg.MaxLen"], apart := false, laid := [("unicode/utf8.acceptRanges", laid_unicode_utf8_acceptRanges), ("unicode/utf8.first", laid_unicode_utf8_first)] }
def ExactTouchesSaid : Prop := exactTouchesRow.holds Tryz.pinned (OpenSpec.ofChange exactTouchesSpec)

/-- ITS FALSE NEIGHBOUR: 'it returns false'. Refute it at one input. -/
def exactTouchesWrong : ChangeSpec := { name := "exactTouches", fn := fun _ => fun
  | [d1, d2, d3] => { results := [.lit (.bool false)], args := [d1, d2, d3] }
  | _ => none }
def ExactTouchesWrongFalsely : Prop := exactTouchesRow.holds Tryz.pinned (OpenSpec.ofChange exactTouchesWrong)

/-- 'lithophanelaw02.ExactMeets': WHATEVER THE INPUT: true; the input reads as it did. -/
def exactMeetsSpec : ChangeSpec := { name := "exactMeets", fn := fun _ => fun
  | [d1, d2, d3] => { results := [.lit (.bool true)], args := [d1, d2, d3] }
  | _ => none }
def exactMeetsRow : OpenClaim := { program := "ytandlbacjfdkpaagreatdoor", sum := "6e00a132a69fb345672cd8815c90051e1b6366d1f24deeabd2828f9ca980638f", func := "lithophane/lithophanelaw02.ExactMeets", spec := "exactMeets", inPlace := ["internal/bytealg.IndexByteString", "internal/bytealg.IndexString", "math/bits.Add64", "math/bits.Sub64"], unfollowed := true, recurses := true, named := ["unicode/utf8.first", "unicode/utf8.acceptRanges", "internal/bytealg.MaxLen"], apart := false, laid := [("unicode/utf8.acceptRanges", laid_unicode_utf8_acceptRanges), ("unicode/utf8.first", laid_unicode_utf8_first)] }
def ExactMeetsSaid : Prop := exactMeetsRow.holds Tryz.pinned (OpenSpec.ofChange exactMeetsSpec)

/-- ITS FALSE NEIGHBOUR: 'it returns false'. Refute it at one input. -/
def exactMeetsWrong : ChangeSpec := { name := "exactMeets", fn := fun _ => fun
  | [d1, d2, d3] => { results := [.lit (.bool false)], args := [d1, d2, d3] }
  | _ => none }
def ExactMeetsWrongFalsely : Prop := exactMeetsRow.holds Tryz.pinned (OpenSpec.ofChange exactMeetsWrong)

/-- 'lithophanelaw02.ExactShared': WHATEVER THE INPUT: true; the input reads as it did. -/
def exactSharedSpec : ChangeSpec := { name := "exactShared", fn := fun _ => fun
  | [d1, d2, d3] => { results := [.lit (.bool true)], args := [d1, d2, d3] }
  | _ => none }
def exactSharedRow : OpenClaim := { program := "ytandlbacjfdkpaagreatdoor", sum := "6e00a132a69fb345672cd8815c90051e1b6366d1f24deeabd2828f9ca980638f", func := "lithophane/lithophanelaw02.ExactShared", spec := "exactShared", inPlace := ["internal/bytealg.IndexByteString", "internal/bytealg.IndexString", "math/bits.Add64", "math/bits.Sub64"], unfollowed := true, recurses := true, named := ["unicode/utf8.first", "unicode/utf8.acceptRanges", "internal/bytealg.MaxLen"], apart := false, laid := [("unicode/utf8.acceptRanges", laid_unicode_utf8_acceptRanges), ("unicode/utf8.first", laid_unicode_utf8_first)] }
def ExactSharedSaid : Prop := exactSharedRow.holds Tryz.pinned (OpenSpec.ofChange exactSharedSpec)

/-- ITS FALSE NEIGHBOUR: 'it returns false'. Refute it at one input. -/
def exactSharedWrong : ChangeSpec := { name := "exactShared", fn := fun _ => fun
  | [d1, d2, d3] => { results := [.lit (.bool false)], args := [d1, d2, d3] }
  | _ => none }
def ExactSharedWrongFalsely : Prop := exactSharedRow.holds Tryz.pinned (OpenSpec.ofChange exactSharedWrong)

/- THE SECOND FORM. 'bulk': how many values and letters a reading holds, each counted each time it is reached (what is shared counts as often as it is met; a slice's spare places count too). A statement '..UptoSaid' is the law's where the arguments, and the package variables that the reading takes, are together of bulk at most 1048576: NARROWER than '..Said'. Prove '..Said' where nothing that the law and all that it calls make is longer than what came in: it says more and counts as full. Else prove '..UptoSaid'. A law counts once. -/
mutual
def uptoBulk {H : Type} : DataW H → Nat
  | .lit (.string bytes) => bytes.length + 1
  | .lit _ => 1
  | .nil => 1
  | .ptr d => uptoBulk d + 1
  | .slice elems spare => uptoBulkAll elems + uptoBulkAll spare + 1
  | .agg parts => uptoBulkAll parts + 1
  | .iface _ d => uptoBulk d + 1
  | .map entries => uptoBulkEntries entries + 1
  | .held _ => 1
def uptoBulkAll {H : Type} : List (DataW H) → Nat
  | [] => 0
  | d :: r => uptoBulk d + uptoBulkAll r
def uptoBulkEntries {H : Type} : List (Lit × DataW H) → Nat
  | [] => 0
  | x :: r => uptoBulkEntry x + uptoBulkEntries r
def uptoBulkEntry {H : Type} : Lit × DataW H → Nat
  | (.string bytes, d) => bytes.length + uptoBulk d + 1
  | (_, d) => uptoBulk d + 1
 end
def uptoSmall : (H : Type) → List (DataW H) → Bool := fun _ ds => decide (uptoBulkAll ds ≤ 1048576)
def OpenSpec.upto (s : _root_.Go.ChangeSpec) : _root_.Go.OpenSpec := { _root_.Go.OpenSpec.ofChange s with cond := some uptoSmall }

/-- 'lithophanelaw02.ExactPoints', WHERE WHAT IT READS IS OF BULK AT MOST 1048576: true; the input reads as it did. -/
def exactPointsUptoRow : OpenClaim := { program := "ytandlbacjfdkpaagreatdoor", sum := "6e00a132a69fb345672cd8815c90051e1b6366d1f24deeabd2828f9ca980638f", func := "lithophane/lithophanelaw02.ExactPoints", spec := "exactPoints", inPlace := ["internal/bytealg.IndexByteString", "internal/bytealg.IndexString", "math/bits.Add64", "math/bits.Sub64"], unfollowed := true, recurses := true, named := ["unicode/utf8.first", "unicode/utf8.acceptRanges", "internal/bytealg.MaxLen"], apart := false, laid := [("unicode/utf8.acceptRanges", laid_unicode_utf8_acceptRanges), ("unicode/utf8.first", laid_unicode_utf8_first)], narrowed := true }
def ExactPointsUptoSaid : Prop := exactPointsUptoRow.holds Tryz.pinned (OpenSpec.upto exactPointsSpec)

/-- 'lithophanelaw02.ExactGrid', WHERE WHAT IT READS IS OF BULK AT MOST 1048576: true; the input reads as it did. -/
def exactGridUptoRow : OpenClaim := { program := "ytandlbacjfdkpaagreatdoor", sum := "6e00a132a69fb345672cd8815c90051e1b6366d1f24deeabd2828f9ca980638f", func := "lithophane/lithophanelaw02.ExactGrid", spec := "exactGrid", inPlace := ["internal/bytealg.IndexByteString", "internal/bytealg.IndexString", "math/bits.Add64", "math/bits.Sub64"], unfollowed := true, recurses := true, named := ["unicode/utf8.first", "unicode/utf8.acceptRanges", "internal/bytealg.MaxLen"], apart := false, laid := [("unicode/utf8.acceptRanges", laid_unicode_utf8_acceptRanges), ("unicode/utf8.first", laid_unicode_utf8_first)], narrowed := true }
def ExactGridUptoSaid : Prop := exactGridUptoRow.holds Tryz.pinned (OpenSpec.upto exactGridSpec)

/-- 'lithophanelaw02.ExactTouches', WHERE WHAT IT READS IS OF BULK AT MOST 1048576: true; the input reads as it did. -/
def exactTouchesUptoRow : OpenClaim := { program := "ytandlbacjfdkpaagreatdoor", sum := "6e00a132a69fb345672cd8815c90051e1b6366d1f24deeabd2828f9ca980638f", func := "lithophane/lithophanelaw02.ExactTouches", spec := "exactTouches", inPlace := ["internal/bytealg.IndexByteString", "internal/bytealg.IndexString", "math/bits.Add64", "math/bits.Sub64"], unfollowed := true, recurses := true, named := ["unicode/utf8.first", "unicode/utf8.acceptRanges", "internal/bytealg.MaxLen"], apart := false, laid := [("unicode/utf8.acceptRanges", laid_unicode_utf8_acceptRanges), ("unicode/utf8.first", laid_unicode_utf8_first)], narrowed := true }
def ExactTouchesUptoSaid : Prop := exactTouchesUptoRow.holds Tryz.pinned (OpenSpec.upto exactTouchesSpec)

/-- 'lithophanelaw02.ExactMeets', WHERE WHAT IT READS IS OF BULK AT MOST 1048576: true; the input reads as it did. -/
def exactMeetsUptoRow : OpenClaim := { program := "ytandlbacjfdkpaagreatdoor", sum := "6e00a132a69fb345672cd8815c90051e1b6366d1f24deeabd2828f9ca980638f", func := "lithophane/lithophanelaw02.ExactMeets", spec := "exactMeets", inPlace := ["internal/bytealg.IndexByteString", "internal/bytealg.IndexString", "math/bits.Add64", "math/bits.Sub64"], unfollowed := true, recurses := true, named := ["unicode/utf8.first", "unicode/utf8.acceptRanges", "internal/bytealg.MaxLen"], apart := false, laid := [("unicode/utf8.acceptRanges", laid_unicode_utf8_acceptRanges), ("unicode/utf8.first", laid_unicode_utf8_first)], narrowed := true }
def ExactMeetsUptoSaid : Prop := exactMeetsUptoRow.holds Tryz.pinned (OpenSpec.upto exactMeetsSpec)

/-- 'lithophanelaw02.ExactShared', WHERE WHAT IT READS IS OF BULK AT MOST 1048576: true; the input reads as it did. -/
def exactSharedUptoRow : OpenClaim := { program := "ytandlbacjfdkpaagreatdoor", sum := "6e00a132a69fb345672cd8815c90051e1b6366d1f24deeabd2828f9ca980638f", func := "lithophane/lithophanelaw02.ExactShared", spec := "exactShared", inPlace := ["internal/bytealg.IndexByteString", "internal/bytealg.IndexString", "math/bits.Add64", "math/bits.Sub64"], unfollowed := true, recurses := true, named := ["unicode/utf8.first", "unicode/utf8.acceptRanges", "internal/bytealg.MaxLen"], apart := false, laid := [("unicode/utf8.acceptRanges", laid_unicode_utf8_acceptRanges), ("unicode/utf8.first", laid_unicode_utf8_first)], narrowed := true }
def ExactSharedUptoSaid : Prop := exactSharedUptoRow.holds Tryz.pinned (OpenSpec.upto exactSharedSpec)

end Rows
end Go.Proofs.YtandlbacjfdkpaaGreatDoor
