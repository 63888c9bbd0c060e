/-
  DERIVED. GIVEN WITH THE SEED: THE CARDS: each row of YtlmmjdaipedjjaaDoorRows.lean that lists a variable, with what it lists TIED to the program's text (the seventh form; the later family's looks); each row that meets fmt, with fmt's text TOLD by the authors' own Lean function (tested against real Go, not proved from fmt's source: count such statements apart). THE CARD IS WHAT COUNTS. Prove the row's statement (the work); the ties are given (YtlmmjdaipedjjaaDoorTie.lean); close each card by the builder's one call (the guide's Derived/Test/ToyasCard.lean, 'card_holds'). Laid BY PROGRAM, IN A SANDBOX (cutbox-door.mjs). By AI agents, Wed Nov 11 2026. No macro, syntax, notation, axiom, sorry.
-/
import Derived.Test.YtlmmjdaipedjjaaDoorRows
import GoSem.ClaimSeven
namespace Go.Proofs.YtlmmjdaipedjjaaDoor
namespace Rows

/-- THE TIED CARD OF 'laws.FnExactIsEmptyNet'. -/
def fnExactIsEmptyNetCard : Claim7 := { stood := { row := fnExactIsEmptyNetRow, standIns := [], harness := (true, "35bad480035e587f8bdbb24a71ec4351f325eeb5cc46759346796063568dae34"), looks := false }, kinds := [], alts := [], laidByText := true, laidKinds := [.data], laidTests := true, laidLooks := .later }
def FnExactIsEmptyNetCardSaid : Prop := Claim7.holds Tryd.pinned (.plain (OpenSpec.ofChange fnExactIsEmptyNetSpec)) fnExactIsEmptyNetCard

/-- THE TIED CARD OF 'laws.FnExactIsAtomic'. -/
def fnExactIsAtomicCard : Claim7 := { stood := { row := fnExactIsAtomicRow, standIns := [], harness := (true, "35bad480035e587f8bdbb24a71ec4351f325eeb5cc46759346796063568dae34"), looks := false }, kinds := [], alts := [], laidByText := true, laidKinds := [.data], laidTests := true, laidLooks := .later }
def FnExactIsAtomicCardSaid : Prop := Claim7.holds Tryd.pinned (.plain (OpenSpec.ofChange fnExactIsAtomicSpec)) fnExactIsAtomicCard

/-- THE TIED CARD OF 'laws.FnExactNearlyConvexNet'. -/
def fnExactNearlyConvexNetCard : Claim7 := { stood := { row := fnExactNearlyConvexNetRow, standIns := [], harness := (true, "35bad480035e587f8bdbb24a71ec4351f325eeb5cc46759346796063568dae34"), looks := false }, kinds := [], alts := [], laidByText := true, laidKinds := [.data], laidTests := true, laidLooks := .later }
def FnExactNearlyConvexNetCardSaid : Prop := Claim7.holds Tryd.pinned (.plain (OpenSpec.ofChange fnExactNearlyConvexNetSpec)) fnExactNearlyConvexNetCard

/-- THE TIED CARD OF 'laws.FnExactTriangleRel'. -/
def fnExactTriangleRelCard : Claim7 := { stood := { row := fnExactTriangleRelRow, standIns := [], harness := (true, "35bad480035e587f8bdbb24a71ec4351f325eeb5cc46759346796063568dae34"), looks := false }, kinds := [], alts := [], laidByText := true, laidKinds := [.data], laidTests := true, laidLooks := .later }
def FnExactTriangleRelCardSaid : Prop := Claim7.holds Tryd.pinned (.plain (OpenSpec.ofChange fnExactTriangleRelSpec)) fnExactTriangleRelCard

/-- THE TIED CARD OF 'laws.FnExactWhyTriangle'. -/
def fnExactWhyTriangleCard : Claim7 := { stood := { row := fnExactWhyTriangleRow, standIns := [], harness := (true, "35bad480035e587f8bdbb24a71ec4351f325eeb5cc46759346796063568dae34"), looks := false }, kinds := [], alts := [], laidByText := true, laidKinds := [.data], laidTests := true, laidLooks := .later }
def FnExactWhyTriangleCardSaid : Prop := Claim7.holds Tryd.pinned (.plain (OpenSpec.ofChange fnExactWhyTriangleSpec)) fnExactWhyTriangleCard

/-- THE TIED CARD OF 'laws.FnExactIsClosed'. -/
def fnExactIsClosedCard : Claim7 := { stood := { row := fnExactIsClosedRow, standIns := [], harness := (true, "35bad480035e587f8bdbb24a71ec4351f325eeb5cc46759346796063568dae34"), looks := false }, kinds := [], alts := [], laidByText := true, laidKinds := [.data], laidTests := true, laidLooks := .later }
def FnExactIsClosedCardSaid : Prop := Claim7.holds Tryd.pinned (.plain (OpenSpec.ofChange fnExactIsClosedSpec)) fnExactIsClosedCard

/-- THE TIED CARD OF 'laws.FnExactCloseNet'. -/
def fnExactCloseNetCard : Claim7 := { stood := { row := fnExactCloseNetRow, standIns := [], harness := (true, "35bad480035e587f8bdbb24a71ec4351f325eeb5cc46759346796063568dae34"), looks := false }, kinds := [], alts := [], laidByText := true, laidKinds := [.data], laidTests := true, laidLooks := .later }
def FnExactCloseNetCardSaid : Prop := Claim7.holds Tryd.pinned (.plain (OpenSpec.ofChange fnExactCloseNetSpec)) fnExactCloseNetCard

/-- THE TIED CARD OF 'laws.FnExactClosesEmpty'. -/
def fnExactClosesEmptyCard : Claim7 := { stood := { row := fnExactClosesEmptyRow, standIns := [], harness := (true, "35bad480035e587f8bdbb24a71ec4351f325eeb5cc46759346796063568dae34"), looks := false }, kinds := [], alts := [], laidByText := true, laidKinds := [.data], laidTests := true, laidLooks := .later }
def FnExactClosesEmptyCardSaid : Prop := Claim7.holds Tryd.pinned (.plain (OpenSpec.ofChange fnExactClosesEmptySpec)) fnExactClosesEmptyCard

/-- THE TIED CARD OF 'laws.FnExactMeetNets'. -/
def fnExactMeetNetsCard : Claim7 := { stood := { row := fnExactMeetNetsRow, standIns := [], harness := (true, "35bad480035e587f8bdbb24a71ec4351f325eeb5cc46759346796063568dae34"), looks := false }, kinds := [], alts := [], laidByText := true, laidKinds := [.data], laidTests := true, laidLooks := .later }
def FnExactMeetNetsCardSaid : Prop := Claim7.holds Tryd.pinned (.plain (OpenSpec.ofChange fnExactMeetNetsSpec)) fnExactMeetNetsCard

/-- THE TIED CARD OF 'laws.FnExactWithinNet'. -/
def fnExactWithinNetCard : Claim7 := { stood := { row := fnExactWithinNetRow, standIns := [], harness := (true, "35bad480035e587f8bdbb24a71ec4351f325eeb5cc46759346796063568dae34"), looks := false }, kinds := [], alts := [], laidByText := true, laidKinds := [.data], laidTests := true, laidLooks := .later }
def FnExactWithinNetCardSaid : Prop := Claim7.holds Tryd.pinned (.plain (OpenSpec.ofChange fnExactWithinNetSpec)) fnExactWithinNetCard

/-- THE TIED CARD OF 'laws.FnExactPartNet'. -/
def fnExactPartNetCard : Claim7 := { stood := { row := fnExactPartNetRow, standIns := [], harness := (true, "35bad480035e587f8bdbb24a71ec4351f325eeb5cc46759346796063568dae34"), looks := false }, kinds := [], alts := [], laidByText := true, laidKinds := [.data], laidTests := true, laidLooks := .later }
def FnExactPartNetCardSaid : Prop := Claim7.holds Tryd.pinned (.plain (OpenSpec.ofChange fnExactPartNetSpec)) fnExactPartNetCard

/-- THE SECOND FORM's CARD OF 'laws.FnExactIsEmptyNet'. -/
def fnExactIsEmptyNetUptoCard : Claim7 := { stood := { row := fnExactIsEmptyNetUptoRow, standIns := [], harness := (true, "35bad480035e587f8bdbb24a71ec4351f325eeb5cc46759346796063568dae34"), looks := false }, kinds := [], alts := [], laidByText := true, laidKinds := [.data], laidTests := true, laidLooks := .later }
def FnExactIsEmptyNetUptoCardSaid : Prop := Claim7.holds Tryd.pinned (.plain (OpenSpec.upto fnExactIsEmptyNetSpec)) fnExactIsEmptyNetUptoCard

/-- THE SECOND FORM's CARD OF 'laws.FnExactIsAtomic'. -/
def fnExactIsAtomicUptoCard : Claim7 := { stood := { row := fnExactIsAtomicUptoRow, standIns := [], harness := (true, "35bad480035e587f8bdbb24a71ec4351f325eeb5cc46759346796063568dae34"), looks := false }, kinds := [], alts := [], laidByText := true, laidKinds := [.data], laidTests := true, laidLooks := .later }
def FnExactIsAtomicUptoCardSaid : Prop := Claim7.holds Tryd.pinned (.plain (OpenSpec.upto fnExactIsAtomicSpec)) fnExactIsAtomicUptoCard

/-- THE SECOND FORM's CARD OF 'laws.FnExactNearlyConvexNet'. -/
def fnExactNearlyConvexNetUptoCard : Claim7 := { stood := { row := fnExactNearlyConvexNetUptoRow, standIns := [], harness := (true, "35bad480035e587f8bdbb24a71ec4351f325eeb5cc46759346796063568dae34"), looks := false }, kinds := [], alts := [], laidByText := true, laidKinds := [.data], laidTests := true, laidLooks := .later }
def FnExactNearlyConvexNetUptoCardSaid : Prop := Claim7.holds Tryd.pinned (.plain (OpenSpec.upto fnExactNearlyConvexNetSpec)) fnExactNearlyConvexNetUptoCard

/-- THE SECOND FORM's CARD OF 'laws.FnExactTriangleRel'. -/
def fnExactTriangleRelUptoCard : Claim7 := { stood := { row := fnExactTriangleRelUptoRow, standIns := [], harness := (true, "35bad480035e587f8bdbb24a71ec4351f325eeb5cc46759346796063568dae34"), looks := false }, kinds := [], alts := [], laidByText := true, laidKinds := [.data], laidTests := true, laidLooks := .later }
def FnExactTriangleRelUptoCardSaid : Prop := Claim7.holds Tryd.pinned (.plain (OpenSpec.upto fnExactTriangleRelSpec)) fnExactTriangleRelUptoCard

/-- THE SECOND FORM's CARD OF 'laws.FnExactWhyTriangle'. -/
def fnExactWhyTriangleUptoCard : Claim7 := { stood := { row := fnExactWhyTriangleUptoRow, standIns := [], harness := (true, "35bad480035e587f8bdbb24a71ec4351f325eeb5cc46759346796063568dae34"), looks := false }, kinds := [], alts := [], laidByText := true, laidKinds := [.data], laidTests := true, laidLooks := .later }
def FnExactWhyTriangleUptoCardSaid : Prop := Claim7.holds Tryd.pinned (.plain (OpenSpec.upto fnExactWhyTriangleSpec)) fnExactWhyTriangleUptoCard

/-- THE SECOND FORM's CARD OF 'laws.FnExactIsClosed'. -/
def fnExactIsClosedUptoCard : Claim7 := { stood := { row := fnExactIsClosedUptoRow, standIns := [], harness := (true, "35bad480035e587f8bdbb24a71ec4351f325eeb5cc46759346796063568dae34"), looks := false }, kinds := [], alts := [], laidByText := true, laidKinds := [.data], laidTests := true, laidLooks := .later }
def FnExactIsClosedUptoCardSaid : Prop := Claim7.holds Tryd.pinned (.plain (OpenSpec.upto fnExactIsClosedSpec)) fnExactIsClosedUptoCard

/-- THE SECOND FORM's CARD OF 'laws.FnExactCloseNet'. -/
def fnExactCloseNetUptoCard : Claim7 := { stood := { row := fnExactCloseNetUptoRow, standIns := [], harness := (true, "35bad480035e587f8bdbb24a71ec4351f325eeb5cc46759346796063568dae34"), looks := false }, kinds := [], alts := [], laidByText := true, laidKinds := [.data], laidTests := true, laidLooks := .later }
def FnExactCloseNetUptoCardSaid : Prop := Claim7.holds Tryd.pinned (.plain (OpenSpec.upto fnExactCloseNetSpec)) fnExactCloseNetUptoCard

/-- THE SECOND FORM's CARD OF 'laws.FnExactClosesEmpty'. -/
def fnExactClosesEmptyUptoCard : Claim7 := { stood := { row := fnExactClosesEmptyUptoRow, standIns := [], harness := (true, "35bad480035e587f8bdbb24a71ec4351f325eeb5cc46759346796063568dae34"), looks := false }, kinds := [], alts := [], laidByText := true, laidKinds := [.data], laidTests := true, laidLooks := .later }
def FnExactClosesEmptyUptoCardSaid : Prop := Claim7.holds Tryd.pinned (.plain (OpenSpec.upto fnExactClosesEmptySpec)) fnExactClosesEmptyUptoCard

/-- THE SECOND FORM's CARD OF 'laws.FnExactMeetNets'. -/
def fnExactMeetNetsUptoCard : Claim7 := { stood := { row := fnExactMeetNetsUptoRow, standIns := [], harness := (true, "35bad480035e587f8bdbb24a71ec4351f325eeb5cc46759346796063568dae34"), looks := false }, kinds := [], alts := [], laidByText := true, laidKinds := [.data], laidTests := true, laidLooks := .later }
def FnExactMeetNetsUptoCardSaid : Prop := Claim7.holds Tryd.pinned (.plain (OpenSpec.upto fnExactMeetNetsSpec)) fnExactMeetNetsUptoCard

/-- THE SECOND FORM's CARD OF 'laws.FnExactWithinNet'. -/
def fnExactWithinNetUptoCard : Claim7 := { stood := { row := fnExactWithinNetUptoRow, standIns := [], harness := (true, "35bad480035e587f8bdbb24a71ec4351f325eeb5cc46759346796063568dae34"), looks := false }, kinds := [], alts := [], laidByText := true, laidKinds := [.data], laidTests := true, laidLooks := .later }
def FnExactWithinNetUptoCardSaid : Prop := Claim7.holds Tryd.pinned (.plain (OpenSpec.upto fnExactWithinNetSpec)) fnExactWithinNetUptoCard

/-- THE SECOND FORM's CARD OF 'laws.FnExactPartNet'. -/
def fnExactPartNetUptoCard : Claim7 := { stood := { row := fnExactPartNetUptoRow, standIns := [], harness := (true, "35bad480035e587f8bdbb24a71ec4351f325eeb5cc46759346796063568dae34"), looks := false }, kinds := [], alts := [], laidByText := true, laidKinds := [.data], laidTests := true, laidLooks := .later }
def FnExactPartNetUptoCardSaid : Prop := Claim7.holds Tryd.pinned (.plain (OpenSpec.upto fnExactPartNetSpec)) fnExactPartNetUptoCard
end Rows
end Go.Proofs.YtlmmjdaipedjjaaDoor
