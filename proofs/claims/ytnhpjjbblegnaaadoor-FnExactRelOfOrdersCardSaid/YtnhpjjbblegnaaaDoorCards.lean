/-
  DERIVED. GIVEN WITH THE SEED: THE CARDS: each row of YtnhpjjbblegnaaaDoorRows.lean that lists a variable, with what it lists TIED to the program's text (the seventh form; the later family's looks); each row that meets fmt, with fmt's text TOLD by the authors' own Lean function (tested against real Go, not proved from fmt's source: count such statements apart). THE CARD IS WHAT COUNTS. Prove the row's statement (the work); the ties are given (YtnhpjjbblegnaaaDoorTie.lean); close each card by the builder's one call (the guide's Derived/Test/ToyasCard.lean, 'card_holds'). Laid BY PROGRAM, IN A SANDBOX (cutbox-door.mjs). By AI agents, Wed Nov 11 2026. No macro, syntax, notation, axiom, sorry.
-/
import Derived.Test.YtnhpjjbblegnaaaDoorRows
import GoSem.ClaimSeven
namespace Go.Proofs.YtnhpjjbblegnaaaDoor
namespace Rows

/-- THE TIED CARD OF 'laws.FnExactConvexHull'. -/
def fnExactConvexHullCard : Claim7 := { stood := { row := fnExactConvexHullRow, standIns := [], harness := (true, "1042873665033ee5db3f5c4a019df34fc7127b3bf7795369b105b6e62ca747cc"), looks := false }, kinds := [], alts := [], laidByText := true, laidKinds := [.data], laidTests := true, laidLooks := .later }
def FnExactConvexHullCardSaid : Prop := Claim7.holds Tryd.pinned (.plain (OpenSpec.ofChange fnExactConvexHullSpec)) fnExactConvexHullCard

/-- THE TIED CARD OF 'laws.FnExactIsConvex'. -/
def fnExactIsConvexCard : Claim7 := { stood := { row := fnExactIsConvexRow, standIns := [], harness := (true, "1042873665033ee5db3f5c4a019df34fc7127b3bf7795369b105b6e62ca747cc"), looks := false }, kinds := [], alts := [], laidByText := true, laidKinds := [.data], laidTests := true, laidLooks := .later }
def FnExactIsConvexCardSaid : Prop := Claim7.holds Tryd.pinned (.plain (OpenSpec.ofChange fnExactIsConvexSpec)) fnExactIsConvexCard

/-- THE TIED CARD OF 'laws.FnExactDimensionOf'. -/
def fnExactDimensionOfCard : Claim7 := { stood := { row := fnExactDimensionOfRow, standIns := [], harness := (true, "1042873665033ee5db3f5c4a019df34fc7127b3bf7795369b105b6e62ca747cc"), looks := false }, kinds := [], alts := [], laidByText := true, laidKinds := [.data], laidTests := true, laidLooks := .later }
def FnExactDimensionOfCardSaid : Prop := Claim7.holds Tryd.pinned (.plain (OpenSpec.ofChange fnExactDimensionOfSpec)) fnExactDimensionOfCard

/-- THE TIED CARD OF 'laws.FnExactClosureOf'. -/
def fnExactClosureOfCard : Claim7 := { stood := { row := fnExactClosureOfRow, standIns := [], harness := (true, "1042873665033ee5db3f5c4a019df34fc7127b3bf7795369b105b6e62ca747cc"), looks := false }, kinds := [], alts := [], laidByText := true, laidKinds := [.data], laidTests := true, laidLooks := .later }
def FnExactClosureOfCardSaid : Prop := Claim7.holds Tryd.pinned (.plain (OpenSpec.ofChange fnExactClosureOfSpec)) fnExactClosureOfCard

/-- THE TIED CARD OF 'laws.FnExactIsPreconvex'. -/
def fnExactIsPreconvexCard : Claim7 := { stood := { row := fnExactIsPreconvexRow, standIns := [], harness := (true, "1042873665033ee5db3f5c4a019df34fc7127b3bf7795369b105b6e62ca747cc"), looks := false }, kinds := [], alts := [], laidByText := true, laidKinds := [.data], laidTests := true, laidLooks := .later }
def FnExactIsPreconvexCardSaid : Prop := Claim7.holds Tryd.pinned (.plain (OpenSpec.ofChange fnExactIsPreconvexSpec)) fnExactIsPreconvexCard

/-- THE TIED CARD OF 'laws.FnExactNextOf'. -/
def fnExactNextOfCard : Claim7 := { stood := { row := fnExactNextOfRow, standIns := [], harness := (true, "1042873665033ee5db3f5c4a019df34fc7127b3bf7795369b105b6e62ca747cc"), looks := false }, kinds := [], alts := [], laidByText := true, laidKinds := [.data], laidTests := true, laidLooks := .later }
def FnExactNextOfCardSaid : Prop := Claim7.holds Tryd.pinned (.plain (OpenSpec.ofChange fnExactNextOfSpec)) fnExactNextOfCard

/-- THE TIED CARD OF 'laws.FnExactStepsBetween'. -/
def fnExactStepsBetweenCard : Claim7 := { stood := { row := fnExactStepsBetweenRow, standIns := [], harness := (true, "1042873665033ee5db3f5c4a019df34fc7127b3bf7795369b105b6e62ca747cc"), looks := false }, kinds := [], alts := [], laidByText := true, laidKinds := [.data], laidTests := true, laidLooks := .later }
def FnExactStepsBetweenCardSaid : Prop := Claim7.holds Tryd.pinned (.plain (OpenSpec.ofChange fnExactStepsBetweenSpec)) fnExactStepsBetweenCard

/-- THE TIED CARD OF 'laws.FnExactEndOrders'. -/
def fnExactEndOrdersCard : Claim7 := { stood := { row := fnExactEndOrdersRow, standIns := [], harness := (true, "1042873665033ee5db3f5c4a019df34fc7127b3bf7795369b105b6e62ca747cc"), looks := false }, kinds := [], alts := [], laidByText := true, laidKinds := [.data], laidTests := true, laidLooks := .later }
def FnExactEndOrdersCardSaid : Prop := Claim7.holds Tryd.pinned (.plain (OpenSpec.ofChange fnExactEndOrdersSpec)) fnExactEndOrdersCard

/-- THE TIED CARD OF 'laws.FnExactRelOfOrders'. -/
def fnExactRelOfOrdersCard : Claim7 := { stood := { row := fnExactRelOfOrdersRow, standIns := [], harness := (true, "1042873665033ee5db3f5c4a019df34fc7127b3bf7795369b105b6e62ca747cc"), looks := false }, kinds := [], alts := [], laidByText := true, laidKinds := [.data], laidTests := true, laidLooks := .later }
def FnExactRelOfOrdersCardSaid : Prop := Claim7.holds Tryd.pinned (.plain (OpenSpec.ofChange fnExactRelOfOrdersSpec)) fnExactRelOfOrdersCard

/-- THE TIED CARD OF 'laws.FnExactIsPointable'. -/
def fnExactIsPointableCard : Claim7 := { stood := { row := fnExactIsPointableRow, standIns := [], harness := (true, "1042873665033ee5db3f5c4a019df34fc7127b3bf7795369b105b6e62ca747cc"), looks := false }, kinds := [], alts := [], laidByText := true, laidKinds := [.data], laidTests := true, laidLooks := .later }
def FnExactIsPointableCardSaid : Prop := Claim7.holds Tryd.pinned (.plain (OpenSpec.ofChange fnExactIsPointableSpec)) fnExactIsPointableCard

/-- THE SECOND FORM's CARD OF 'laws.FnExactConvexHull'. -/
def fnExactConvexHullUptoCard : Claim7 := { stood := { row := fnExactConvexHullUptoRow, standIns := [], harness := (true, "1042873665033ee5db3f5c4a019df34fc7127b3bf7795369b105b6e62ca747cc"), looks := false }, kinds := [], alts := [], laidByText := true, laidKinds := [.data], laidTests := true, laidLooks := .later }
def FnExactConvexHullUptoCardSaid : Prop := Claim7.holds Tryd.pinned (.plain (OpenSpec.upto fnExactConvexHullSpec)) fnExactConvexHullUptoCard

/-- THE SECOND FORM's CARD OF 'laws.FnExactIsConvex'. -/
def fnExactIsConvexUptoCard : Claim7 := { stood := { row := fnExactIsConvexUptoRow, standIns := [], harness := (true, "1042873665033ee5db3f5c4a019df34fc7127b3bf7795369b105b6e62ca747cc"), looks := false }, kinds := [], alts := [], laidByText := true, laidKinds := [.data], laidTests := true, laidLooks := .later }
def FnExactIsConvexUptoCardSaid : Prop := Claim7.holds Tryd.pinned (.plain (OpenSpec.upto fnExactIsConvexSpec)) fnExactIsConvexUptoCard

/-- THE SECOND FORM's CARD OF 'laws.FnExactDimensionOf'. -/
def fnExactDimensionOfUptoCard : Claim7 := { stood := { row := fnExactDimensionOfUptoRow, standIns := [], harness := (true, "1042873665033ee5db3f5c4a019df34fc7127b3bf7795369b105b6e62ca747cc"), looks := false }, kinds := [], alts := [], laidByText := true, laidKinds := [.data], laidTests := true, laidLooks := .later }
def FnExactDimensionOfUptoCardSaid : Prop := Claim7.holds Tryd.pinned (.plain (OpenSpec.upto fnExactDimensionOfSpec)) fnExactDimensionOfUptoCard

/-- THE SECOND FORM's CARD OF 'laws.FnExactClosureOf'. -/
def fnExactClosureOfUptoCard : Claim7 := { stood := { row := fnExactClosureOfUptoRow, standIns := [], harness := (true, "1042873665033ee5db3f5c4a019df34fc7127b3bf7795369b105b6e62ca747cc"), looks := false }, kinds := [], alts := [], laidByText := true, laidKinds := [.data], laidTests := true, laidLooks := .later }
def FnExactClosureOfUptoCardSaid : Prop := Claim7.holds Tryd.pinned (.plain (OpenSpec.upto fnExactClosureOfSpec)) fnExactClosureOfUptoCard

/-- THE SECOND FORM's CARD OF 'laws.FnExactIsPreconvex'. -/
def fnExactIsPreconvexUptoCard : Claim7 := { stood := { row := fnExactIsPreconvexUptoRow, standIns := [], harness := (true, "1042873665033ee5db3f5c4a019df34fc7127b3bf7795369b105b6e62ca747cc"), looks := false }, kinds := [], alts := [], laidByText := true, laidKinds := [.data], laidTests := true, laidLooks := .later }
def FnExactIsPreconvexUptoCardSaid : Prop := Claim7.holds Tryd.pinned (.plain (OpenSpec.upto fnExactIsPreconvexSpec)) fnExactIsPreconvexUptoCard

/-- THE SECOND FORM's CARD OF 'laws.FnExactNextOf'. -/
def fnExactNextOfUptoCard : Claim7 := { stood := { row := fnExactNextOfUptoRow, standIns := [], harness := (true, "1042873665033ee5db3f5c4a019df34fc7127b3bf7795369b105b6e62ca747cc"), looks := false }, kinds := [], alts := [], laidByText := true, laidKinds := [.data], laidTests := true, laidLooks := .later }
def FnExactNextOfUptoCardSaid : Prop := Claim7.holds Tryd.pinned (.plain (OpenSpec.upto fnExactNextOfSpec)) fnExactNextOfUptoCard

/-- THE SECOND FORM's CARD OF 'laws.FnExactStepsBetween'. -/
def fnExactStepsBetweenUptoCard : Claim7 := { stood := { row := fnExactStepsBetweenUptoRow, standIns := [], harness := (true, "1042873665033ee5db3f5c4a019df34fc7127b3bf7795369b105b6e62ca747cc"), looks := false }, kinds := [], alts := [], laidByText := true, laidKinds := [.data], laidTests := true, laidLooks := .later }
def FnExactStepsBetweenUptoCardSaid : Prop := Claim7.holds Tryd.pinned (.plain (OpenSpec.upto fnExactStepsBetweenSpec)) fnExactStepsBetweenUptoCard

/-- THE SECOND FORM's CARD OF 'laws.FnExactEndOrders'. -/
def fnExactEndOrdersUptoCard : Claim7 := { stood := { row := fnExactEndOrdersUptoRow, standIns := [], harness := (true, "1042873665033ee5db3f5c4a019df34fc7127b3bf7795369b105b6e62ca747cc"), looks := false }, kinds := [], alts := [], laidByText := true, laidKinds := [.data], laidTests := true, laidLooks := .later }
def FnExactEndOrdersUptoCardSaid : Prop := Claim7.holds Tryd.pinned (.plain (OpenSpec.upto fnExactEndOrdersSpec)) fnExactEndOrdersUptoCard

/-- THE SECOND FORM's CARD OF 'laws.FnExactRelOfOrders'. -/
def fnExactRelOfOrdersUptoCard : Claim7 := { stood := { row := fnExactRelOfOrdersUptoRow, standIns := [], harness := (true, "1042873665033ee5db3f5c4a019df34fc7127b3bf7795369b105b6e62ca747cc"), looks := false }, kinds := [], alts := [], laidByText := true, laidKinds := [.data], laidTests := true, laidLooks := .later }
def FnExactRelOfOrdersUptoCardSaid : Prop := Claim7.holds Tryd.pinned (.plain (OpenSpec.upto fnExactRelOfOrdersSpec)) fnExactRelOfOrdersUptoCard

/-- THE SECOND FORM's CARD OF 'laws.FnExactIsPointable'. -/
def fnExactIsPointableUptoCard : Claim7 := { stood := { row := fnExactIsPointableUptoRow, standIns := [], harness := (true, "1042873665033ee5db3f5c4a019df34fc7127b3bf7795369b105b6e62ca747cc"), looks := false }, kinds := [], alts := [], laidByText := true, laidKinds := [.data], laidTests := true, laidLooks := .later }
def FnExactIsPointableUptoCardSaid : Prop := Claim7.holds Tryd.pinned (.plain (OpenSpec.upto fnExactIsPointableSpec)) fnExactIsPointableUptoCard
end Rows
end Go.Proofs.YtnhpjjbblegnaaaDoor
