/-
  DERIVED. GIVEN WITH THE SEED: THE CARDS: each row of YthldegohihkkiabDoorRows.lean that lists a variable, with what it lists TIED to the program's text (the seventh form; the later family's looks); each row that meets fmt, with fmt's text TOLD by the authors' own Lean function (tested against real Go, not proved from fmt's source: count such statements apart). THE CARD IS WHAT COUNTS. Prove the row's statement (the work); the ties are given (YthldegohihkkiabDoorTie.lean); close each card by the builder's one call (the guide's Derived/Test/ToyasCard.lean, 'card_holds'). Laid BY PROGRAM, IN A SANDBOX (cutbox-door.mjs). By AI agents, Wed Nov 11 2026. No macro, syntax, notation, axiom, sorry.
-/
import Derived.Test.YthldegohihkkiabDoorRows
import GoSem.ClaimSeven
namespace Go.Proofs.YthldegohihkkiabDoor
namespace Rows

/-- THE TIED CARD OF 'laws.FnRelText'. -/
def fnRelTextCard : Claim7 := { stood := { row := fnRelTextRow, standIns := [], harness := (true, "f5c38ce79e0c1bc50ea0e13f13e1f5f186a2830dec3bcc7bfe14a3033b7e7d7e"), looks := true }, kinds := [], alts := [], laidByText := true, laidKinds := [.data], laidTests := true, laidLooks := .later }
def FnRelTextCardSaid : Prop := Claim7.holds Tryd.pinned (.plain (OpenSpec.ofChange fnRelTextSpec)) fnRelTextCard

/-- THE TIED CARD OF 'laws.FnRelHolds'. -/
def fnRelHoldsCard : Claim7 := { stood := { row := fnRelHoldsRow, standIns := [], harness := (true, "f5c38ce79e0c1bc50ea0e13f13e1f5f186a2830dec3bcc7bfe14a3033b7e7d7e"), looks := true }, kinds := [], alts := [], laidByText := true, laidKinds := [.data], laidTests := true, laidLooks := .later }
def FnRelHoldsCardSaid : Prop := Claim7.holds Tryd.pinned (.plain (OpenSpec.ofChange fnRelHoldsSpec)) fnRelHoldsCard

/-- THE TIED CARD OF 'laws.FnTurnRel'. -/
def fnTurnRelCard : Claim7 := { stood := { row := fnTurnRelRow, standIns := [], harness := (true, "f5c38ce79e0c1bc50ea0e13f13e1f5f186a2830dec3bcc7bfe14a3033b7e7d7e"), looks := true }, kinds := [], alts := [], laidByText := true, laidKinds := [.data], laidTests := true, laidLooks := .later }
def FnTurnRelCardSaid : Prop := Claim7.holds Tryd.pinned (.plain (OpenSpec.ofChange fnTurnRelSpec)) fnTurnRelCard

/-- THE TIED CARD OF 'laws.FnComposeBasic'. -/
def fnComposeBasicCard : Claim7 := { stood := { row := fnComposeBasicRow, standIns := [], harness := (true, "f5c38ce79e0c1bc50ea0e13f13e1f5f186a2830dec3bcc7bfe14a3033b7e7d7e"), looks := true }, kinds := [], alts := [], laidByText := true, laidKinds := [.data], laidTests := true, laidLooks := .later }
def FnComposeBasicCardSaid : Prop := Claim7.holds Tryd.pinned (.plain (OpenSpec.ofChange fnComposeBasicSpec)) fnComposeBasicCard

/-- THE TIED CARD OF 'laws.FnComposeRel'. -/
def fnComposeRelCard : Claim7 := { stood := { row := fnComposeRelRow, standIns := [], harness := (true, "f5c38ce79e0c1bc50ea0e13f13e1f5f186a2830dec3bcc7bfe14a3033b7e7d7e"), looks := true }, kinds := [], alts := [], laidByText := true, laidKinds := [.data], laidTests := true, laidLooks := .later }
def FnComposeRelCardSaid : Prop := Claim7.holds Tryd.pinned (.plain (OpenSpec.ofChange fnComposeRelSpec)) fnComposeRelCard

/-- THE TIED CARD OF 'laws.FnResidual'. -/
def fnResidualCard : Claim7 := { stood := { row := fnResidualRow, standIns := [], harness := (true, "f5c38ce79e0c1bc50ea0e13f13e1f5f186a2830dec3bcc7bfe14a3033b7e7d7e"), looks := true }, kinds := [], alts := [], laidByText := true, laidKinds := [.data], laidTests := true, laidLooks := .later }
def FnResidualCardSaid : Prop := Claim7.holds Tryd.pinned (.plain (OpenSpec.ofChange fnResidualSpec)) fnResidualCard

/-- THE TIED CARD OF 'laws.FnNamed'. -/
def fnNamedCard : Claim7 := { stood := { row := fnNamedRow, standIns := [], harness := (true, "f5c38ce79e0c1bc50ea0e13f13e1f5f186a2830dec3bcc7bfe14a3033b7e7d7e"), looks := true }, kinds := [], alts := [], laidByText := true, laidKinds := [.data, .data], laidTests := true, laidLooks := .later }
def FnNamedCardSaid : Prop := Claim7.holds Tryd.pinned (.plain (OpenSpec.ofChange fnNamedSpec)) fnNamedCard

/-- THE TIED CARD OF 'laws.FnTurnBasic'. -/
def fnTurnBasicCard : Claim7 := { stood := { row := fnTurnBasicRow, standIns := [], harness := (true, "f5c38ce79e0c1bc50ea0e13f13e1f5f186a2830dec3bcc7bfe14a3033b7e7d7e"), looks := true }, kinds := [], alts := [], laidByText := true, laidKinds := [.data, .data], laidTests := true, laidLooks := .later }
def FnTurnBasicCardSaid : Prop := Claim7.holds Tryd.pinned (.plain (OpenSpec.ofChange fnTurnBasicSpec)) fnTurnBasicCard

/-- THE TIED CARD OF 'laws.FnBasicOf'. -/
def fnBasicOfCard : Claim7 := { stood := { row := fnBasicOfRow, standIns := [], harness := (true, "f5c38ce79e0c1bc50ea0e13f13e1f5f186a2830dec3bcc7bfe14a3033b7e7d7e"), looks := true }, kinds := [], alts := [], laidByText := true, laidKinds := [.data], laidTests := true, laidLooks := .later }
def FnBasicOfCardSaid : Prop := Claim7.holds Tryd.pinned (.plain (OpenSpec.ofChange fnBasicOfSpec)) fnBasicOfCard

/-- THE TIED CARD OF 'laws.FnMeetOf'. -/
def fnMeetOfCard : Claim7 := { stood := { row := fnMeetOfRow, standIns := [], harness := (true, "f5c38ce79e0c1bc50ea0e13f13e1f5f186a2830dec3bcc7bfe14a3033b7e7d7e"), looks := true }, kinds := [], alts := [], laidByText := true, laidKinds := [.data], laidTests := true, laidLooks := .later }
def FnMeetOfCardSaid : Prop := Claim7.holds Tryd.pinned (.plain (OpenSpec.ofChange fnMeetOfSpec)) fnMeetOfCard

/-- THE TIED CARD OF 'laws.FnIntervalText'. -/
def fnIntervalTextCard : Claim7 := { stood := { row := fnIntervalTextRow, standIns := [], harness := (true, "f5c38ce79e0c1bc50ea0e13f13e1f5f186a2830dec3bcc7bfe14a3033b7e7d7e"), looks := true }, kinds := [], alts := [], laidByText := true, laidKinds := [.data, .data, .data, .sentinel, .sentinel], laidTests := true, laidLooks := .later }
def FnIntervalTextCardSaid : Prop := Claim7.holds Tryd.pinned (.plain (OpenSpec.ofChange fnIntervalTextSpec)) fnIntervalTextCard

/-- THE SECOND FORM's CARD OF 'laws.FnRelText'. -/
def fnRelTextUptoCard : Claim7 := { stood := { row := fnRelTextUptoRow, standIns := [], harness := (true, "f5c38ce79e0c1bc50ea0e13f13e1f5f186a2830dec3bcc7bfe14a3033b7e7d7e"), looks := true }, kinds := [], alts := [], laidByText := true, laidKinds := [.data], laidTests := true, laidLooks := .later }
def FnRelTextUptoCardSaid : Prop := Claim7.holds Tryd.pinned (.plain (OpenSpec.upto fnRelTextSpec)) fnRelTextUptoCard

/-- THE SECOND FORM's CARD OF 'laws.FnRelHolds'. -/
def fnRelHoldsUptoCard : Claim7 := { stood := { row := fnRelHoldsUptoRow, standIns := [], harness := (true, "f5c38ce79e0c1bc50ea0e13f13e1f5f186a2830dec3bcc7bfe14a3033b7e7d7e"), looks := true }, kinds := [], alts := [], laidByText := true, laidKinds := [.data], laidTests := true, laidLooks := .later }
def FnRelHoldsUptoCardSaid : Prop := Claim7.holds Tryd.pinned (.plain (OpenSpec.upto fnRelHoldsSpec)) fnRelHoldsUptoCard

/-- THE SECOND FORM's CARD OF 'laws.FnTurnRel'. -/
def fnTurnRelUptoCard : Claim7 := { stood := { row := fnTurnRelUptoRow, standIns := [], harness := (true, "f5c38ce79e0c1bc50ea0e13f13e1f5f186a2830dec3bcc7bfe14a3033b7e7d7e"), looks := true }, kinds := [], alts := [], laidByText := true, laidKinds := [.data], laidTests := true, laidLooks := .later }
def FnTurnRelUptoCardSaid : Prop := Claim7.holds Tryd.pinned (.plain (OpenSpec.upto fnTurnRelSpec)) fnTurnRelUptoCard

/-- THE SECOND FORM's CARD OF 'laws.FnComposeBasic'. -/
def fnComposeBasicUptoCard : Claim7 := { stood := { row := fnComposeBasicUptoRow, standIns := [], harness := (true, "f5c38ce79e0c1bc50ea0e13f13e1f5f186a2830dec3bcc7bfe14a3033b7e7d7e"), looks := true }, kinds := [], alts := [], laidByText := true, laidKinds := [.data], laidTests := true, laidLooks := .later }
def FnComposeBasicUptoCardSaid : Prop := Claim7.holds Tryd.pinned (.plain (OpenSpec.upto fnComposeBasicSpec)) fnComposeBasicUptoCard

/-- THE SECOND FORM's CARD OF 'laws.FnComposeRel'. -/
def fnComposeRelUptoCard : Claim7 := { stood := { row := fnComposeRelUptoRow, standIns := [], harness := (true, "f5c38ce79e0c1bc50ea0e13f13e1f5f186a2830dec3bcc7bfe14a3033b7e7d7e"), looks := true }, kinds := [], alts := [], laidByText := true, laidKinds := [.data], laidTests := true, laidLooks := .later }
def FnComposeRelUptoCardSaid : Prop := Claim7.holds Tryd.pinned (.plain (OpenSpec.upto fnComposeRelSpec)) fnComposeRelUptoCard

/-- THE SECOND FORM's CARD OF 'laws.FnResidual'. -/
def fnResidualUptoCard : Claim7 := { stood := { row := fnResidualUptoRow, standIns := [], harness := (true, "f5c38ce79e0c1bc50ea0e13f13e1f5f186a2830dec3bcc7bfe14a3033b7e7d7e"), looks := true }, kinds := [], alts := [], laidByText := true, laidKinds := [.data], laidTests := true, laidLooks := .later }
def FnResidualUptoCardSaid : Prop := Claim7.holds Tryd.pinned (.plain (OpenSpec.upto fnResidualSpec)) fnResidualUptoCard

/-- THE SECOND FORM's CARD OF 'laws.FnNamed'. -/
def fnNamedUptoCard : Claim7 := { stood := { row := fnNamedUptoRow, standIns := [], harness := (true, "f5c38ce79e0c1bc50ea0e13f13e1f5f186a2830dec3bcc7bfe14a3033b7e7d7e"), looks := true }, kinds := [], alts := [], laidByText := true, laidKinds := [.data, .data], laidTests := true, laidLooks := .later }
def FnNamedUptoCardSaid : Prop := Claim7.holds Tryd.pinned (.plain (OpenSpec.upto fnNamedSpec)) fnNamedUptoCard

/-- THE SECOND FORM's CARD OF 'laws.FnTurnBasic'. -/
def fnTurnBasicUptoCard : Claim7 := { stood := { row := fnTurnBasicUptoRow, standIns := [], harness := (true, "f5c38ce79e0c1bc50ea0e13f13e1f5f186a2830dec3bcc7bfe14a3033b7e7d7e"), looks := true }, kinds := [], alts := [], laidByText := true, laidKinds := [.data, .data], laidTests := true, laidLooks := .later }
def FnTurnBasicUptoCardSaid : Prop := Claim7.holds Tryd.pinned (.plain (OpenSpec.upto fnTurnBasicSpec)) fnTurnBasicUptoCard

/-- THE SECOND FORM's CARD OF 'laws.FnBasicOf'. -/
def fnBasicOfUptoCard : Claim7 := { stood := { row := fnBasicOfUptoRow, standIns := [], harness := (true, "f5c38ce79e0c1bc50ea0e13f13e1f5f186a2830dec3bcc7bfe14a3033b7e7d7e"), looks := true }, kinds := [], alts := [], laidByText := true, laidKinds := [.data], laidTests := true, laidLooks := .later }
def FnBasicOfUptoCardSaid : Prop := Claim7.holds Tryd.pinned (.plain (OpenSpec.upto fnBasicOfSpec)) fnBasicOfUptoCard

/-- THE SECOND FORM's CARD OF 'laws.FnMeetOf'. -/
def fnMeetOfUptoCard : Claim7 := { stood := { row := fnMeetOfUptoRow, standIns := [], harness := (true, "f5c38ce79e0c1bc50ea0e13f13e1f5f186a2830dec3bcc7bfe14a3033b7e7d7e"), looks := true }, kinds := [], alts := [], laidByText := true, laidKinds := [.data], laidTests := true, laidLooks := .later }
def FnMeetOfUptoCardSaid : Prop := Claim7.holds Tryd.pinned (.plain (OpenSpec.upto fnMeetOfSpec)) fnMeetOfUptoCard

/-- THE SECOND FORM's CARD OF 'laws.FnIntervalText'. -/
def fnIntervalTextUptoCard : Claim7 := { stood := { row := fnIntervalTextUptoRow, standIns := [], harness := (true, "f5c38ce79e0c1bc50ea0e13f13e1f5f186a2830dec3bcc7bfe14a3033b7e7d7e"), looks := true }, kinds := [], alts := [], laidByText := true, laidKinds := [.data, .data, .data, .sentinel, .sentinel], laidTests := true, laidLooks := .later }
def FnIntervalTextUptoCardSaid : Prop := Claim7.holds Tryd.pinned (.plain (OpenSpec.upto fnIntervalTextSpec)) fnIntervalTextUptoCard
end Rows
end Go.Proofs.YthldegohihkkiabDoor
