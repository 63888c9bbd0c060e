/-
  DERIVED. GIVEN WITH THE SEED: THE CARDS: each row of YtnbjbkbfdpdbfaaDoorRows.lean that lists a variable, with what it lists TIED to the program's text (the seventh form; the later family's looks); each row that meets fmt, with fmt's text TOLD by the authors' own Lean function (tested against real Go, not proved from fmt's source: count such statements apart). THE CARD IS WHAT COUNTS. Prove the row's statement (the work); the ties are given (YtnbjbkbfdpdbfaaDoorTie.lean); close each card by the builder's one call (the guide's Derived/Test/ToyasCard.lean, 'card_holds'). Laid BY PROGRAM, IN A SANDBOX (cutbox-door.mjs). By AI agents, Wed Nov 11 2026. No macro, syntax, notation, axiom, sorry.
-/
import Derived.Test.YtnbjbkbfdpdbfaaDoorRows
import GoSem.ClaimSeven
namespace Go.Proofs.YtnbjbkbfdpdbfaaDoor
namespace Rows

/-- THE TIED CARD OF 'laws.FnBasicOf'. -/
def fnBasicOfCard : Claim7 := { stood := { row := fnBasicOfRow, standIns := [], harness := (true, "ef074ef9f54a22061e26ddbf91b7dcf62f15a4e09e0c19dd30356f698d247ecb"), looks := true }, kinds := [], alts := [], laidByText := true, laidKinds := [.data], laidTests := true, laidLooks := .later }
def FnBasicOfCardSaid : Prop := Claim7.holds Tryd.pinned (.plain (OpenSpec.ofChange fnBasicOfSpec)) fnBasicOfCard

/-- THE TIED CARD OF 'laws.FnIntervalText'. -/
def fnIntervalTextCard : Claim7 := { stood := { row := fnIntervalTextRow, standIns := [], harness := (true, "ef074ef9f54a22061e26ddbf91b7dcf62f15a4e09e0c19dd30356f698d247ecb"), looks := true }, kinds := [], alts := [], laidByText := true, laidKinds := [.data, .data, .data, .sentinel, .sentinel], laidTests := true, laidLooks := .later }
def FnIntervalTextCardSaid : Prop := Claim7.holds Tryd.pinned (.plain (OpenSpec.ofChange fnIntervalTextSpec)) fnIntervalTextCard

/-- THE TIED CARD OF 'laws.FnTurnBasic'. -/
def fnTurnBasicCard : Claim7 := { stood := { row := fnTurnBasicRow, standIns := [], harness := (true, "ef074ef9f54a22061e26ddbf91b7dcf62f15a4e09e0c19dd30356f698d247ecb"), looks := true }, kinds := [], alts := [], laidByText := true, laidKinds := [.data, .data], laidTests := true, laidLooks := .later }
def FnTurnBasicCardSaid : Prop := Claim7.holds Tryd.pinned (.plain (OpenSpec.ofChange fnTurnBasicSpec)) fnTurnBasicCard

/-- THE TIED CARD OF 'laws.FnBasicAt'. -/
def fnBasicAtCard : Claim7 := { stood := { row := fnBasicAtRow, standIns := [], harness := (true, "ef074ef9f54a22061e26ddbf91b7dcf62f15a4e09e0c19dd30356f698d247ecb"), looks := true }, kinds := [], alts := [], laidByText := true, laidKinds := [.data], laidTests := true, laidLooks := .later }
def FnBasicAtCardSaid : Prop := Claim7.holds Tryd.pinned (.plain (OpenSpec.ofChange fnBasicAtSpec)) fnBasicAtCard

/-- THE TIED CARD OF 'laws.FnMeetOf'. -/
def fnMeetOfCard : Claim7 := { stood := { row := fnMeetOfRow, standIns := [], harness := (true, "ef074ef9f54a22061e26ddbf91b7dcf62f15a4e09e0c19dd30356f698d247ecb"), looks := true }, kinds := [], alts := [], laidByText := true, laidKinds := [.data], laidTests := true, laidLooks := .later }
def FnMeetOfCardSaid : Prop := Claim7.holds Tryd.pinned (.plain (OpenSpec.ofChange fnMeetOfSpec)) fnMeetOfCard

/-- THE TIED CARD OF 'laws.FnExactFormatInterval'. -/
def fnExactFormatIntervalCard : Claim7 := { stood := { row := fnExactFormatIntervalRow, standIns := [], harness := (true, "ef074ef9f54a22061e26ddbf91b7dcf62f15a4e09e0c19dd30356f698d247ecb"), looks := true }, kinds := [], alts := [], laidByText := true, laidKinds := [.data, .data, .data], laidTests := true, laidLooks := .later }
def FnExactFormatIntervalCardSaid : Prop := Claim7.holds Tryd.pinned (.plain (OpenSpec.ofChange fnExactFormatIntervalSpec)) fnExactFormatIntervalCard

/-- THE TIED CARD OF 'laws.FnExactParseInterval'. -/
def fnExactParseIntervalCard : Claim7 := { stood := { row := fnExactParseIntervalRow, standIns := [], harness := (true, "ef074ef9f54a22061e26ddbf91b7dcf62f15a4e09e0c19dd30356f698d247ecb"), looks := true }, kinds := [], alts := [], laidByText := true, laidKinds := [.data, .data, .data, .sentinel, .sentinel], laidTests := true, laidLooks := .later }
def FnExactParseIntervalCardSaid : Prop := Claim7.holds Tryd.pinned (.plain (OpenSpec.ofChange fnExactParseIntervalSpec)) fnExactParseIntervalCard

/-- THE TIED CARD OF 'laws.FnExactBasicOf'. -/
def fnExactBasicOfCard : Claim7 := { stood := { row := fnExactBasicOfRow, standIns := [], harness := (true, "ef074ef9f54a22061e26ddbf91b7dcf62f15a4e09e0c19dd30356f698d247ecb"), looks := true }, kinds := [], alts := [], laidByText := true, laidKinds := [.data], laidTests := true, laidLooks := .later }
def FnExactBasicOfCardSaid : Prop := Claim7.holds Tryd.pinned (.plain (OpenSpec.ofChange fnExactBasicOfSpec)) fnExactBasicOfCard

/-- THE TIED CARD OF 'laws.FnExactTurnBasic'. -/
def fnExactTurnBasicCard : Claim7 := { stood := { row := fnExactTurnBasicRow, standIns := [], harness := (true, "ef074ef9f54a22061e26ddbf91b7dcf62f15a4e09e0c19dd30356f698d247ecb"), looks := true }, kinds := [], alts := [], laidByText := true, laidKinds := [.data], laidTests := true, laidLooks := .later }
def FnExactTurnBasicCardSaid : Prop := Claim7.holds Tryd.pinned (.plain (OpenSpec.ofChange fnExactTurnBasicSpec)) fnExactTurnBasicCard

/-- THE TIED CARD OF 'laws.FnExactMirrorBasic'. -/
def fnExactMirrorBasicCard : Claim7 := { stood := { row := fnExactMirrorBasicRow, standIns := [], harness := (true, "ef074ef9f54a22061e26ddbf91b7dcf62f15a4e09e0c19dd30356f698d247ecb"), looks := true }, kinds := [], alts := [], laidByText := true, laidKinds := [.data], laidTests := true, laidLooks := .later }
def FnExactMirrorBasicCardSaid : Prop := Claim7.holds Tryd.pinned (.plain (OpenSpec.ofChange fnExactMirrorBasicSpec)) fnExactMirrorBasicCard

/-- THE SECOND FORM's CARD OF 'laws.FnBasicOf'. -/
def fnBasicOfUptoCard : Claim7 := { stood := { row := fnBasicOfUptoRow, standIns := [], harness := (true, "ef074ef9f54a22061e26ddbf91b7dcf62f15a4e09e0c19dd30356f698d247ecb"), looks := true }, kinds := [], alts := [], laidByText := true, laidKinds := [.data], laidTests := true, laidLooks := .later }
def FnBasicOfUptoCardSaid : Prop := Claim7.holds Tryd.pinned (.plain (OpenSpec.upto fnBasicOfSpec)) fnBasicOfUptoCard

/-- THE SECOND FORM's CARD OF 'laws.FnIntervalText'. -/
def fnIntervalTextUptoCard : Claim7 := { stood := { row := fnIntervalTextUptoRow, standIns := [], harness := (true, "ef074ef9f54a22061e26ddbf91b7dcf62f15a4e09e0c19dd30356f698d247ecb"), looks := true }, kinds := [], alts := [], laidByText := true, laidKinds := [.data, .data, .data, .sentinel, .sentinel], laidTests := true, laidLooks := .later }
def FnIntervalTextUptoCardSaid : Prop := Claim7.holds Tryd.pinned (.plain (OpenSpec.upto fnIntervalTextSpec)) fnIntervalTextUptoCard

/-- THE SECOND FORM's CARD OF 'laws.FnTurnBasic'. -/
def fnTurnBasicUptoCard : Claim7 := { stood := { row := fnTurnBasicUptoRow, standIns := [], harness := (true, "ef074ef9f54a22061e26ddbf91b7dcf62f15a4e09e0c19dd30356f698d247ecb"), looks := true }, kinds := [], alts := [], laidByText := true, laidKinds := [.data, .data], laidTests := true, laidLooks := .later }
def FnTurnBasicUptoCardSaid : Prop := Claim7.holds Tryd.pinned (.plain (OpenSpec.upto fnTurnBasicSpec)) fnTurnBasicUptoCard

/-- THE SECOND FORM's CARD OF 'laws.FnBasicAt'. -/
def fnBasicAtUptoCard : Claim7 := { stood := { row := fnBasicAtUptoRow, standIns := [], harness := (true, "ef074ef9f54a22061e26ddbf91b7dcf62f15a4e09e0c19dd30356f698d247ecb"), looks := true }, kinds := [], alts := [], laidByText := true, laidKinds := [.data], laidTests := true, laidLooks := .later }
def FnBasicAtUptoCardSaid : Prop := Claim7.holds Tryd.pinned (.plain (OpenSpec.upto fnBasicAtSpec)) fnBasicAtUptoCard

/-- THE SECOND FORM's CARD OF 'laws.FnMeetOf'. -/
def fnMeetOfUptoCard : Claim7 := { stood := { row := fnMeetOfUptoRow, standIns := [], harness := (true, "ef074ef9f54a22061e26ddbf91b7dcf62f15a4e09e0c19dd30356f698d247ecb"), looks := true }, kinds := [], alts := [], laidByText := true, laidKinds := [.data], laidTests := true, laidLooks := .later }
def FnMeetOfUptoCardSaid : Prop := Claim7.holds Tryd.pinned (.plain (OpenSpec.upto fnMeetOfSpec)) fnMeetOfUptoCard

/-- THE SECOND FORM's CARD OF 'laws.FnExactFormatInterval'. -/
def fnExactFormatIntervalUptoCard : Claim7 := { stood := { row := fnExactFormatIntervalUptoRow, standIns := [], harness := (true, "ef074ef9f54a22061e26ddbf91b7dcf62f15a4e09e0c19dd30356f698d247ecb"), looks := true }, kinds := [], alts := [], laidByText := true, laidKinds := [.data, .data, .data], laidTests := true, laidLooks := .later }
def FnExactFormatIntervalUptoCardSaid : Prop := Claim7.holds Tryd.pinned (.plain (OpenSpec.upto fnExactFormatIntervalSpec)) fnExactFormatIntervalUptoCard

/-- THE SECOND FORM's CARD OF 'laws.FnExactParseInterval'. -/
def fnExactParseIntervalUptoCard : Claim7 := { stood := { row := fnExactParseIntervalUptoRow, standIns := [], harness := (true, "ef074ef9f54a22061e26ddbf91b7dcf62f15a4e09e0c19dd30356f698d247ecb"), looks := true }, kinds := [], alts := [], laidByText := true, laidKinds := [.data, .data, .data, .sentinel, .sentinel], laidTests := true, laidLooks := .later }
def FnExactParseIntervalUptoCardSaid : Prop := Claim7.holds Tryd.pinned (.plain (OpenSpec.upto fnExactParseIntervalSpec)) fnExactParseIntervalUptoCard

/-- THE SECOND FORM's CARD OF 'laws.FnExactBasicOf'. -/
def fnExactBasicOfUptoCard : Claim7 := { stood := { row := fnExactBasicOfUptoRow, standIns := [], harness := (true, "ef074ef9f54a22061e26ddbf91b7dcf62f15a4e09e0c19dd30356f698d247ecb"), looks := true }, kinds := [], alts := [], laidByText := true, laidKinds := [.data], laidTests := true, laidLooks := .later }
def FnExactBasicOfUptoCardSaid : Prop := Claim7.holds Tryd.pinned (.plain (OpenSpec.upto fnExactBasicOfSpec)) fnExactBasicOfUptoCard

/-- THE SECOND FORM's CARD OF 'laws.FnExactTurnBasic'. -/
def fnExactTurnBasicUptoCard : Claim7 := { stood := { row := fnExactTurnBasicUptoRow, standIns := [], harness := (true, "ef074ef9f54a22061e26ddbf91b7dcf62f15a4e09e0c19dd30356f698d247ecb"), looks := true }, kinds := [], alts := [], laidByText := true, laidKinds := [.data], laidTests := true, laidLooks := .later }
def FnExactTurnBasicUptoCardSaid : Prop := Claim7.holds Tryd.pinned (.plain (OpenSpec.upto fnExactTurnBasicSpec)) fnExactTurnBasicUptoCard

/-- THE SECOND FORM's CARD OF 'laws.FnExactMirrorBasic'. -/
def fnExactMirrorBasicUptoCard : Claim7 := { stood := { row := fnExactMirrorBasicUptoRow, standIns := [], harness := (true, "ef074ef9f54a22061e26ddbf91b7dcf62f15a4e09e0c19dd30356f698d247ecb"), looks := true }, kinds := [], alts := [], laidByText := true, laidKinds := [.data], laidTests := true, laidLooks := .later }
def FnExactMirrorBasicUptoCardSaid : Prop := Claim7.holds Tryd.pinned (.plain (OpenSpec.upto fnExactMirrorBasicSpec)) fnExactMirrorBasicUptoCard
end Rows
end Go.Proofs.YtnbjbkbfdpdbfaaDoor
