/-
  DERIVED. GIVEN WITH THE SEED: THE CARDS: each row of YtnhpjjbblegnaabDoorRows.lean that lists a variable, with what it lists TIED to the program's text (the seventh form; the later family's looks); each row that meets fmt, with fmt's text TOLD by the authors' own Lean function (tested against real Go, not proved from fmt's source: count such statements apart). THE CARD IS WHAT COUNTS. Prove the row's statement (the work); the ties are given (YtnhpjjbblegnaabDoorTie.lean); close each card by the builder's one call (the guide's Derived/Test/ToyasCard.lean, 'card_holds'). Laid BY PROGRAM, IN A SANDBOX (cutbox-door.mjs). By AI agents, Wed Nov 11 2026. No macro, syntax, notation, axiom, sorry.
-/
import Derived.Test.YtnhpjjbblegnaabDoorRows
import GoSem.ClaimSeven
namespace Go.Proofs.YtnhpjjbblegnaabDoor
namespace Rows

/-- THE TIED CARD OF 'laws.FnConvex'. -/
def fnConvexCard : Claim7 := { stood := { row := fnConvexRow, standIns := [], harness := (true, "ab01118c42aa15eeead914c8784f63ea3d195711c5e37fe8ba2f40d718eb3e81"), looks := false }, kinds := [], alts := [], laidByText := true, laidKinds := [.data], laidTests := true, laidLooks := .later }
def FnConvexCardSaid : Prop := Claim7.holds Tryd.pinned (.plain (OpenSpec.ofChange fnConvexSpec)) fnConvexCard

/-- THE TIED CARD OF 'laws.FnPreconvex'. -/
def fnPreconvexCard : Claim7 := { stood := { row := fnPreconvexRow, standIns := [], harness := (true, "ab01118c42aa15eeead914c8784f63ea3d195711c5e37fe8ba2f40d718eb3e81"), looks := false }, kinds := [], alts := [], laidByText := true, laidKinds := [.data], laidTests := true, laidLooks := .later }
def FnPreconvexCardSaid : Prop := Claim7.holds Tryd.pinned (.plain (OpenSpec.ofChange fnPreconvexSpec)) fnPreconvexCard

/-- THE TIED CARD OF 'laws.FnClosure'. -/
def fnClosureCard : Claim7 := { stood := { row := fnClosureRow, standIns := [], harness := (true, "ab01118c42aa15eeead914c8784f63ea3d195711c5e37fe8ba2f40d718eb3e81"), looks := false }, kinds := [], alts := [], laidByText := true, laidKinds := [.data], laidTests := true, laidLooks := .later }
def FnClosureCardSaid : Prop := Claim7.holds Tryd.pinned (.plain (OpenSpec.ofChange fnClosureSpec)) fnClosureCard

/-- THE TIED CARD OF 'laws.FnNextOf'. -/
def fnNextOfCard : Claim7 := { stood := { row := fnNextOfRow, standIns := [], harness := (true, "ab01118c42aa15eeead914c8784f63ea3d195711c5e37fe8ba2f40d718eb3e81"), looks := false }, kinds := [], alts := [], laidByText := true, laidKinds := [.data], laidTests := true, laidLooks := .later }
def FnNextOfCardSaid : Prop := Claim7.holds Tryd.pinned (.plain (OpenSpec.ofChange fnNextOfSpec)) fnNextOfCard

/-- THE TIED CARD OF 'laws.FnSteps'. -/
def fnStepsCard : Claim7 := { stood := { row := fnStepsRow, standIns := [], harness := (true, "ab01118c42aa15eeead914c8784f63ea3d195711c5e37fe8ba2f40d718eb3e81"), looks := false }, kinds := [], alts := [], laidByText := true, laidKinds := [.data], laidTests := true, laidLooks := .later }
def FnStepsCardSaid : Prop := Claim7.holds Tryd.pinned (.plain (OpenSpec.ofChange fnStepsSpec)) fnStepsCard

/-- THE TIED CARD OF 'laws.FnEndOrders'. -/
def fnEndOrdersCard : Claim7 := { stood := { row := fnEndOrdersRow, standIns := [], harness := (true, "ab01118c42aa15eeead914c8784f63ea3d195711c5e37fe8ba2f40d718eb3e81"), looks := false }, kinds := [], alts := [], laidByText := true, laidKinds := [.data, .data], laidTests := true, laidLooks := .later }
def FnEndOrdersCardSaid : Prop := Claim7.holds Tryd.pinned (.plain (OpenSpec.ofChange fnEndOrdersSpec)) fnEndOrdersCard

/-- THE TIED CARD OF 'laws.FnRelOfOrders'. -/
def fnRelOfOrdersCard : Claim7 := { stood := { row := fnRelOfOrdersRow, standIns := [], harness := (true, "ab01118c42aa15eeead914c8784f63ea3d195711c5e37fe8ba2f40d718eb3e81"), looks := false }, kinds := [], alts := [], laidByText := true, laidKinds := [.data], laidTests := true, laidLooks := .later }
def FnRelOfOrdersCardSaid : Prop := Claim7.holds Tryd.pinned (.plain (OpenSpec.ofChange fnRelOfOrdersSpec)) fnRelOfOrdersCard

/-- THE TIED CARD OF 'laws.FnNamed'. -/
def fnNamedCard : Claim7 := { stood := { row := fnNamedRow, standIns := [], harness := (true, "ab01118c42aa15eeead914c8784f63ea3d195711c5e37fe8ba2f40d718eb3e81"), looks := false }, kinds := [], alts := [], laidByText := true, laidKinds := [.data, .data], laidTests := true, laidLooks := .later }
def FnNamedCardSaid : Prop := Claim7.holds Tryd.pinned (.plain (OpenSpec.ofChange fnNamedSpec)) fnNamedCard

/-- THE TIED CARD OF 'laws.FnRelText'. -/
def fnRelTextCard : Claim7 := { stood := { row := fnRelTextRow, standIns := [], harness := (true, "ab01118c42aa15eeead914c8784f63ea3d195711c5e37fe8ba2f40d718eb3e81"), looks := false }, kinds := [], alts := [], laidByText := true, laidKinds := [.data], laidTests := true, laidLooks := .later }
def FnRelTextCardSaid : Prop := Claim7.holds Tryd.pinned (.plain (OpenSpec.ofChange fnRelTextSpec)) fnRelTextCard

/-- THE TIED CARD OF 'laws.FnComposeBasic'. -/
def fnComposeBasicCard : Claim7 := { stood := { row := fnComposeBasicRow, standIns := [], harness := (true, "ab01118c42aa15eeead914c8784f63ea3d195711c5e37fe8ba2f40d718eb3e81"), looks := false }, kinds := [], alts := [], laidByText := true, laidKinds := [.data], laidTests := true, laidLooks := .later }
def FnComposeBasicCardSaid : Prop := Claim7.holds Tryd.pinned (.plain (OpenSpec.ofChange fnComposeBasicSpec)) fnComposeBasicCard

/-- THE SECOND FORM's CARD OF 'laws.FnConvex'. -/
def fnConvexUptoCard : Claim7 := { stood := { row := fnConvexUptoRow, standIns := [], harness := (true, "ab01118c42aa15eeead914c8784f63ea3d195711c5e37fe8ba2f40d718eb3e81"), looks := false }, kinds := [], alts := [], laidByText := true, laidKinds := [.data], laidTests := true, laidLooks := .later }
def FnConvexUptoCardSaid : Prop := Claim7.holds Tryd.pinned (.plain (OpenSpec.upto fnConvexSpec)) fnConvexUptoCard

/-- THE SECOND FORM's CARD OF 'laws.FnPreconvex'. -/
def fnPreconvexUptoCard : Claim7 := { stood := { row := fnPreconvexUptoRow, standIns := [], harness := (true, "ab01118c42aa15eeead914c8784f63ea3d195711c5e37fe8ba2f40d718eb3e81"), looks := false }, kinds := [], alts := [], laidByText := true, laidKinds := [.data], laidTests := true, laidLooks := .later }
def FnPreconvexUptoCardSaid : Prop := Claim7.holds Tryd.pinned (.plain (OpenSpec.upto fnPreconvexSpec)) fnPreconvexUptoCard

/-- THE SECOND FORM's CARD OF 'laws.FnClosure'. -/
def fnClosureUptoCard : Claim7 := { stood := { row := fnClosureUptoRow, standIns := [], harness := (true, "ab01118c42aa15eeead914c8784f63ea3d195711c5e37fe8ba2f40d718eb3e81"), looks := false }, kinds := [], alts := [], laidByText := true, laidKinds := [.data], laidTests := true, laidLooks := .later }
def FnClosureUptoCardSaid : Prop := Claim7.holds Tryd.pinned (.plain (OpenSpec.upto fnClosureSpec)) fnClosureUptoCard

/-- THE SECOND FORM's CARD OF 'laws.FnNextOf'. -/
def fnNextOfUptoCard : Claim7 := { stood := { row := fnNextOfUptoRow, standIns := [], harness := (true, "ab01118c42aa15eeead914c8784f63ea3d195711c5e37fe8ba2f40d718eb3e81"), looks := false }, kinds := [], alts := [], laidByText := true, laidKinds := [.data], laidTests := true, laidLooks := .later }
def FnNextOfUptoCardSaid : Prop := Claim7.holds Tryd.pinned (.plain (OpenSpec.upto fnNextOfSpec)) fnNextOfUptoCard

/-- THE SECOND FORM's CARD OF 'laws.FnSteps'. -/
def fnStepsUptoCard : Claim7 := { stood := { row := fnStepsUptoRow, standIns := [], harness := (true, "ab01118c42aa15eeead914c8784f63ea3d195711c5e37fe8ba2f40d718eb3e81"), looks := false }, kinds := [], alts := [], laidByText := true, laidKinds := [.data], laidTests := true, laidLooks := .later }
def FnStepsUptoCardSaid : Prop := Claim7.holds Tryd.pinned (.plain (OpenSpec.upto fnStepsSpec)) fnStepsUptoCard

/-- THE SECOND FORM's CARD OF 'laws.FnEndOrders'. -/
def fnEndOrdersUptoCard : Claim7 := { stood := { row := fnEndOrdersUptoRow, standIns := [], harness := (true, "ab01118c42aa15eeead914c8784f63ea3d195711c5e37fe8ba2f40d718eb3e81"), looks := false }, kinds := [], alts := [], laidByText := true, laidKinds := [.data, .data], laidTests := true, laidLooks := .later }
def FnEndOrdersUptoCardSaid : Prop := Claim7.holds Tryd.pinned (.plain (OpenSpec.upto fnEndOrdersSpec)) fnEndOrdersUptoCard

/-- THE SECOND FORM's CARD OF 'laws.FnRelOfOrders'. -/
def fnRelOfOrdersUptoCard : Claim7 := { stood := { row := fnRelOfOrdersUptoRow, standIns := [], harness := (true, "ab01118c42aa15eeead914c8784f63ea3d195711c5e37fe8ba2f40d718eb3e81"), looks := false }, kinds := [], alts := [], laidByText := true, laidKinds := [.data], laidTests := true, laidLooks := .later }
def FnRelOfOrdersUptoCardSaid : Prop := Claim7.holds Tryd.pinned (.plain (OpenSpec.upto fnRelOfOrdersSpec)) fnRelOfOrdersUptoCard

/-- THE SECOND FORM's CARD OF 'laws.FnNamed'. -/
def fnNamedUptoCard : Claim7 := { stood := { row := fnNamedUptoRow, standIns := [], harness := (true, "ab01118c42aa15eeead914c8784f63ea3d195711c5e37fe8ba2f40d718eb3e81"), looks := false }, kinds := [], alts := [], laidByText := true, laidKinds := [.data, .data], laidTests := true, laidLooks := .later }
def FnNamedUptoCardSaid : Prop := Claim7.holds Tryd.pinned (.plain (OpenSpec.upto fnNamedSpec)) fnNamedUptoCard

/-- THE SECOND FORM's CARD OF 'laws.FnRelText'. -/
def fnRelTextUptoCard : Claim7 := { stood := { row := fnRelTextUptoRow, standIns := [], harness := (true, "ab01118c42aa15eeead914c8784f63ea3d195711c5e37fe8ba2f40d718eb3e81"), looks := false }, kinds := [], alts := [], laidByText := true, laidKinds := [.data], laidTests := true, laidLooks := .later }
def FnRelTextUptoCardSaid : Prop := Claim7.holds Tryd.pinned (.plain (OpenSpec.upto fnRelTextSpec)) fnRelTextUptoCard

/-- THE SECOND FORM's CARD OF 'laws.FnComposeBasic'. -/
def fnComposeBasicUptoCard : Claim7 := { stood := { row := fnComposeBasicUptoRow, standIns := [], harness := (true, "ab01118c42aa15eeead914c8784f63ea3d195711c5e37fe8ba2f40d718eb3e81"), looks := false }, kinds := [], alts := [], laidByText := true, laidKinds := [.data], laidTests := true, laidLooks := .later }
def FnComposeBasicUptoCardSaid : Prop := Claim7.holds Tryd.pinned (.plain (OpenSpec.upto fnComposeBasicSpec)) fnComposeBasicUptoCard
end Rows
end Go.Proofs.YtnhpjjbblegnaabDoor
