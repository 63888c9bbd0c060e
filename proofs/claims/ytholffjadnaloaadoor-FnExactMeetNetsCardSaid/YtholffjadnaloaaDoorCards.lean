/-
  DERIVED. GIVEN WITH THE SEED: THE CARDS: each row of YtholffjadnaloaaDoorRows.lean that lists a variable, with what it lists TIED to the program's text (the seventh form; the later family's looks); each row that meets fmt, with fmt's text TOLD by the authors' own Lean function (tested against real Go, not proved from fmt's source: count such statements apart). THE CARD IS WHAT COUNTS. Prove the row's statement (the work); the ties are given (YtholffjadnaloaaDoorTie.lean); close each card by the builder's one call (the guide's Derived/Test/ToyasCard.lean, 'card_holds'). Laid BY PROGRAM, IN A SANDBOX (cutbox-door.mjs). By AI agents, Wed Nov 11 2026. No macro, syntax, notation, axiom, sorry.
-/
import Derived.Test.YtholffjadnaloaaDoorRows
import GoSem.ClaimSeven
namespace Go.Proofs.YtholffjadnaloaaDoor
namespace Rows

/-- THE TIED CARD OF 'laws.FnExactIsScenario'. -/
def fnExactIsScenarioCard : Claim7 := { stood := { row := fnExactIsScenarioRow, standIns := [], harness := (true, "9c3b8ef547ba8759a21865389349527eb9babe59c780f7b86663caaa309eeff0"), looks := false }, kinds := [], alts := [], laidByText := true, laidKinds := [.data], laidTests := true, laidLooks := .later }
def FnExactIsScenarioCardSaid : Prop := Claim7.holds Tryd.pinned (.plain (OpenSpec.ofChange fnExactIsScenarioSpec)) fnExactIsScenarioCard

/-- THE TIED CARD OF 'laws.FnExactMeetNets'. -/
def fnExactMeetNetsCard : Claim7 := { stood := { row := fnExactMeetNetsRow, standIns := [], harness := (true, "9c3b8ef547ba8759a21865389349527eb9babe59c780f7b86663caaa309eeff0"), looks := false }, kinds := [], alts := [], laidByText := true, laidKinds := [.data], laidTests := true, laidLooks := .later }
def FnExactMeetNetsCardSaid : Prop := Claim7.holds Tryd.pinned (.plain (OpenSpec.ofChange fnExactMeetNetsSpec)) fnExactMeetNetsCard

/-- THE TIED CARD OF 'laws.FnExactWithinNet'. -/
def fnExactWithinNetCard : Claim7 := { stood := { row := fnExactWithinNetRow, standIns := [], harness := (true, "9c3b8ef547ba8759a21865389349527eb9babe59c780f7b86663caaa309eeff0"), looks := false }, kinds := [], alts := [], laidByText := true, laidKinds := [.data], laidTests := true, laidLooks := .later }
def FnExactWithinNetCardSaid : Prop := Claim7.holds Tryd.pinned (.plain (OpenSpec.ofChange fnExactWithinNetSpec)) fnExactWithinNetCard

/-- THE TIED CARD OF 'laws.FnExactPartNet'. -/
def fnExactPartNetCard : Claim7 := { stood := { row := fnExactPartNetRow, standIns := [], harness := (true, "9c3b8ef547ba8759a21865389349527eb9babe59c780f7b86663caaa309eeff0"), looks := false }, kinds := [], alts := [], laidByText := true, laidKinds := [.data], laidTests := true, laidLooks := .later }
def FnExactPartNetCardSaid : Prop := Claim7.holds Tryd.pinned (.plain (OpenSpec.ofChange fnExactPartNetSpec)) fnExactPartNetCard

/-- THE TIED CARD OF 'laws.FnWhyTriangle'. -/
def fnWhyTriangleCard : Claim7 := { stood := { row := fnWhyTriangleRow, standIns := [], harness := (true, "9c3b8ef547ba8759a21865389349527eb9babe59c780f7b86663caaa309eeff0"), looks := false }, kinds := [], alts := [], laidByText := true, laidKinds := [.data], laidTests := true, laidLooks := .later }
def FnWhyTriangleCardSaid : Prop := Claim7.holds Tryd.pinned (.plain (OpenSpec.ofChange fnWhyTriangleSpec)) fnWhyTriangleCard

/-- THE TIED CARD OF 'laws.FnRelIn'. -/
def fnRelInCard : Claim7 := { stood := { row := fnRelInRow, standIns := [], harness := (true, "9c3b8ef547ba8759a21865389349527eb9babe59c780f7b86663caaa309eeff0"), looks := false }, kinds := [], alts := [], laidByText := true, laidKinds := [.data], laidTests := true, laidLooks := .later }
def FnRelInCardSaid : Prop := Claim7.holds Tryd.pinned (.plain (OpenSpec.ofChange fnRelInSpec)) fnRelInCard

/-- THE TIED CARD OF 'laws.FnPutRel'. -/
def fnPutRelCard : Claim7 := { stood := { row := fnPutRelRow, standIns := [], harness := (true, "9c3b8ef547ba8759a21865389349527eb9babe59c780f7b86663caaa309eeff0"), looks := false }, kinds := [], alts := [], laidByText := true, laidKinds := [.data], laidTests := true, laidLooks := .later }
def FnPutRelCardSaid : Prop := Claim7.holds Tryd.pinned (.plain (OpenSpec.ofChange fnPutRelSpec)) fnPutRelCard

/-- THE TIED CARD OF 'laws.FnExactNetOf'. -/
def fnExactNetOfCard : Claim7 := { stood := { row := fnExactNetOfRow, standIns := [], harness := (true, "9c3b8ef547ba8759a21865389349527eb9babe59c780f7b86663caaa309eeff0"), looks := false }, kinds := [], alts := [], laidByText := true, laidKinds := [.data], laidTests := true, laidLooks := .later }
def FnExactNetOfCardSaid : Prop := Claim7.holds Tryd.pinned (.plain (OpenSpec.ofChange fnExactNetOfSpec)) fnExactNetOfCard

/-- THE TIED CARD OF 'laws.FnExactNetHolds'. -/
def fnExactNetHoldsCard : Claim7 := { stood := { row := fnExactNetHoldsRow, standIns := [], harness := (true, "9c3b8ef547ba8759a21865389349527eb9babe59c780f7b86663caaa309eeff0"), looks := false }, kinds := [], alts := [], laidByText := true, laidKinds := [.data], laidTests := true, laidLooks := .later }
def FnExactNetHoldsCardSaid : Prop := Claim7.holds Tryd.pinned (.plain (OpenSpec.ofChange fnExactNetHoldsSpec)) fnExactNetHoldsCard

/-- THE SECOND FORM's CARD OF 'laws.FnExactIsScenario'. -/
def fnExactIsScenarioUptoCard : Claim7 := { stood := { row := fnExactIsScenarioUptoRow, standIns := [], harness := (true, "9c3b8ef547ba8759a21865389349527eb9babe59c780f7b86663caaa309eeff0"), looks := false }, kinds := [], alts := [], laidByText := true, laidKinds := [.data], laidTests := true, laidLooks := .later }
def FnExactIsScenarioUptoCardSaid : Prop := Claim7.holds Tryd.pinned (.plain (OpenSpec.upto fnExactIsScenarioSpec)) fnExactIsScenarioUptoCard

/-- THE SECOND FORM's CARD OF 'laws.FnExactMeetNets'. -/
def fnExactMeetNetsUptoCard : Claim7 := { stood := { row := fnExactMeetNetsUptoRow, standIns := [], harness := (true, "9c3b8ef547ba8759a21865389349527eb9babe59c780f7b86663caaa309eeff0"), looks := false }, kinds := [], alts := [], laidByText := true, laidKinds := [.data], laidTests := true, laidLooks := .later }
def FnExactMeetNetsUptoCardSaid : Prop := Claim7.holds Tryd.pinned (.plain (OpenSpec.upto fnExactMeetNetsSpec)) fnExactMeetNetsUptoCard

/-- THE SECOND FORM's CARD OF 'laws.FnExactWithinNet'. -/
def fnExactWithinNetUptoCard : Claim7 := { stood := { row := fnExactWithinNetUptoRow, standIns := [], harness := (true, "9c3b8ef547ba8759a21865389349527eb9babe59c780f7b86663caaa309eeff0"), looks := false }, kinds := [], alts := [], laidByText := true, laidKinds := [.data], laidTests := true, laidLooks := .later }
def FnExactWithinNetUptoCardSaid : Prop := Claim7.holds Tryd.pinned (.plain (OpenSpec.upto fnExactWithinNetSpec)) fnExactWithinNetUptoCard

/-- THE SECOND FORM's CARD OF 'laws.FnExactPartNet'. -/
def fnExactPartNetUptoCard : Claim7 := { stood := { row := fnExactPartNetUptoRow, standIns := [], harness := (true, "9c3b8ef547ba8759a21865389349527eb9babe59c780f7b86663caaa309eeff0"), looks := false }, kinds := [], alts := [], laidByText := true, laidKinds := [.data], laidTests := true, laidLooks := .later }
def FnExactPartNetUptoCardSaid : Prop := Claim7.holds Tryd.pinned (.plain (OpenSpec.upto fnExactPartNetSpec)) fnExactPartNetUptoCard

/-- THE SECOND FORM's CARD OF 'laws.FnWhyTriangle'. -/
def fnWhyTriangleUptoCard : Claim7 := { stood := { row := fnWhyTriangleUptoRow, standIns := [], harness := (true, "9c3b8ef547ba8759a21865389349527eb9babe59c780f7b86663caaa309eeff0"), looks := false }, kinds := [], alts := [], laidByText := true, laidKinds := [.data], laidTests := true, laidLooks := .later }
def FnWhyTriangleUptoCardSaid : Prop := Claim7.holds Tryd.pinned (.plain (OpenSpec.upto fnWhyTriangleSpec)) fnWhyTriangleUptoCard

/-- THE SECOND FORM's CARD OF 'laws.FnRelIn'. -/
def fnRelInUptoCard : Claim7 := { stood := { row := fnRelInUptoRow, standIns := [], harness := (true, "9c3b8ef547ba8759a21865389349527eb9babe59c780f7b86663caaa309eeff0"), looks := false }, kinds := [], alts := [], laidByText := true, laidKinds := [.data], laidTests := true, laidLooks := .later }
def FnRelInUptoCardSaid : Prop := Claim7.holds Tryd.pinned (.plain (OpenSpec.upto fnRelInSpec)) fnRelInUptoCard

/-- THE SECOND FORM's CARD OF 'laws.FnPutRel'. -/
def fnPutRelUptoCard : Claim7 := { stood := { row := fnPutRelUptoRow, standIns := [], harness := (true, "9c3b8ef547ba8759a21865389349527eb9babe59c780f7b86663caaa309eeff0"), looks := false }, kinds := [], alts := [], laidByText := true, laidKinds := [.data], laidTests := true, laidLooks := .later }
def FnPutRelUptoCardSaid : Prop := Claim7.holds Tryd.pinned (.plain (OpenSpec.upto fnPutRelSpec)) fnPutRelUptoCard

/-- THE SECOND FORM's CARD OF 'laws.FnExactNetOf'. -/
def fnExactNetOfUptoCard : Claim7 := { stood := { row := fnExactNetOfUptoRow, standIns := [], harness := (true, "9c3b8ef547ba8759a21865389349527eb9babe59c780f7b86663caaa309eeff0"), looks := false }, kinds := [], alts := [], laidByText := true, laidKinds := [.data], laidTests := true, laidLooks := .later }
def FnExactNetOfUptoCardSaid : Prop := Claim7.holds Tryd.pinned (.plain (OpenSpec.upto fnExactNetOfSpec)) fnExactNetOfUptoCard

/-- THE SECOND FORM's CARD OF 'laws.FnExactNetHolds'. -/
def fnExactNetHoldsUptoCard : Claim7 := { stood := { row := fnExactNetHoldsUptoRow, standIns := [], harness := (true, "9c3b8ef547ba8759a21865389349527eb9babe59c780f7b86663caaa309eeff0"), looks := false }, kinds := [], alts := [], laidByText := true, laidKinds := [.data], laidTests := true, laidLooks := .later }
def FnExactNetHoldsUptoCardSaid : Prop := Claim7.holds Tryd.pinned (.plain (OpenSpec.upto fnExactNetHoldsSpec)) fnExactNetHoldsUptoCard
end Rows
end Go.Proofs.YtholffjadnaloaaDoor
