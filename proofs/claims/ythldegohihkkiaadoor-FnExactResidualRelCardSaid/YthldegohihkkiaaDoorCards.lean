/-
  DERIVED. GIVEN WITH THE SEED: THE CARDS: each row of YthldegohihkkiaaDoorRows.lean that lists a variable, with what it lists TIED to the program's text (the seventh form; the later family's looks); each row that meets fmt, with fmt's text TOLD by the authors' own Lean function (tested against real Go, not proved from fmt's source: count such statements apart). THE CARD IS WHAT COUNTS. Prove the row's statement (the work); the ties are given (YthldegohihkkiaaDoorTie.lean); close each card by the builder's one call (the guide's Derived/Test/ToyasCard.lean, 'card_holds'). Laid BY PROGRAM, IN A SANDBOX (cutbox-door.mjs). By AI agents, Wed Nov 11 2026. No macro, syntax, notation, axiom, sorry.
-/
import Derived.Test.YthldegohihkkiaaDoorRows
import GoSem.ClaimSeven
namespace Go.Proofs.YthldegohihkkiaaDoor
namespace Rows

/-- THE TIED CARD OF 'laws.FnExactFormatRel'. -/
def fnExactFormatRelCard : Claim7 := { stood := { row := fnExactFormatRelRow, standIns := [], harness := (true, "ecf4addd128a23127e224ed9303d1ecfd899b917f6dce197966f26440d5163ca"), looks := false }, kinds := [], alts := [], laidByText := true, laidKinds := [.data], laidTests := true, laidLooks := .later }
def FnExactFormatRelCardSaid : Prop := Claim7.holds Tryd.pinned (.plain (OpenSpec.ofChange fnExactFormatRelSpec)) fnExactFormatRelCard

/-- THE TIED CARD OF 'laws.FnExactParseRel'. -/
def fnExactParseRelCard : Claim7 := { stood := { row := fnExactParseRelRow, standIns := [], harness := (true, "ecf4addd128a23127e224ed9303d1ecfd899b917f6dce197966f26440d5163ca"), looks := false }, kinds := [], alts := [], laidByText := true, laidKinds := [.data], laidTests := true, laidLooks := .later }
def FnExactParseRelCardSaid : Prop := Claim7.holds Tryd.pinned (.plain (OpenSpec.ofChange fnExactParseRelSpec)) fnExactParseRelCard

/-- THE TIED CARD OF 'laws.FnExactRelHolds'. -/
def fnExactRelHoldsCard : Claim7 := { stood := { row := fnExactRelHoldsRow, standIns := [], harness := (true, "ecf4addd128a23127e224ed9303d1ecfd899b917f6dce197966f26440d5163ca"), looks := false }, kinds := [], alts := [], laidByText := true, laidKinds := [.data], laidTests := true, laidLooks := .later }
def FnExactRelHoldsCardSaid : Prop := Claim7.holds Tryd.pinned (.plain (OpenSpec.ofChange fnExactRelHoldsSpec)) fnExactRelHoldsCard

/-- THE TIED CARD OF 'laws.FnExactTurnRel'. -/
def fnExactTurnRelCard : Claim7 := { stood := { row := fnExactTurnRelRow, standIns := [], harness := (true, "ecf4addd128a23127e224ed9303d1ecfd899b917f6dce197966f26440d5163ca"), looks := false }, kinds := [], alts := [], laidByText := true, laidKinds := [.data], laidTests := true, laidLooks := .later }
def FnExactTurnRelCardSaid : Prop := Claim7.holds Tryd.pinned (.plain (OpenSpec.ofChange fnExactTurnRelSpec)) fnExactTurnRelCard

/-- THE TIED CARD OF 'laws.FnExactMirrorRel'. -/
def fnExactMirrorRelCard : Claim7 := { stood := { row := fnExactMirrorRelRow, standIns := [], harness := (true, "ecf4addd128a23127e224ed9303d1ecfd899b917f6dce197966f26440d5163ca"), looks := false }, kinds := [], alts := [], laidByText := true, laidKinds := [.data], laidTests := true, laidLooks := .later }
def FnExactMirrorRelCardSaid : Prop := Claim7.holds Tryd.pinned (.plain (OpenSpec.ofChange fnExactMirrorRelSpec)) fnExactMirrorRelCard

/-- THE TIED CARD OF 'laws.FnExactComposeBasic'. -/
def fnExactComposeBasicCard : Claim7 := { stood := { row := fnExactComposeBasicRow, standIns := [], harness := (true, "ecf4addd128a23127e224ed9303d1ecfd899b917f6dce197966f26440d5163ca"), looks := false }, kinds := [], alts := [], laidByText := true, laidKinds := [.data], laidTests := true, laidLooks := .later }
def FnExactComposeBasicCardSaid : Prop := Claim7.holds Tryd.pinned (.plain (OpenSpec.ofChange fnExactComposeBasicSpec)) fnExactComposeBasicCard

/-- THE TIED CARD OF 'laws.FnExactComposeRel'. -/
def fnExactComposeRelCard : Claim7 := { stood := { row := fnExactComposeRelRow, standIns := [], harness := (true, "ecf4addd128a23127e224ed9303d1ecfd899b917f6dce197966f26440d5163ca"), looks := false }, kinds := [], alts := [], laidByText := true, laidKinds := [.data], laidTests := true, laidLooks := .later }
def FnExactComposeRelCardSaid : Prop := Claim7.holds Tryd.pinned (.plain (OpenSpec.ofChange fnExactComposeRelSpec)) fnExactComposeRelCard

/-- THE TIED CARD OF 'laws.FnExactNamedRel'. -/
def fnExactNamedRelCard : Claim7 := { stood := { row := fnExactNamedRelRow, standIns := [], harness := (true, "ecf4addd128a23127e224ed9303d1ecfd899b917f6dce197966f26440d5163ca"), looks := false }, kinds := [], alts := [], laidByText := true, laidKinds := [.data, .data], laidTests := true, laidLooks := .later }
def FnExactNamedRelCardSaid : Prop := Claim7.holds Tryd.pinned (.plain (OpenSpec.ofChange fnExactNamedRelSpec)) fnExactNamedRelCard

/-- THE TIED CARD OF 'laws.FnExactResidualRel'. -/
def fnExactResidualRelCard : Claim7 := { stood := { row := fnExactResidualRelRow, standIns := [], harness := (true, "ecf4addd128a23127e224ed9303d1ecfd899b917f6dce197966f26440d5163ca"), looks := false }, kinds := [], alts := [], laidByText := true, laidKinds := [.data], laidTests := true, laidLooks := .later }
def FnExactResidualRelCardSaid : Prop := Claim7.holds Tryd.pinned (.plain (OpenSpec.ofChange fnExactResidualRelSpec)) fnExactResidualRelCard

/-- THE SECOND FORM's CARD OF 'laws.FnExactFormatRel'. -/
def fnExactFormatRelUptoCard : Claim7 := { stood := { row := fnExactFormatRelUptoRow, standIns := [], harness := (true, "ecf4addd128a23127e224ed9303d1ecfd899b917f6dce197966f26440d5163ca"), looks := false }, kinds := [], alts := [], laidByText := true, laidKinds := [.data], laidTests := true, laidLooks := .later }
def FnExactFormatRelUptoCardSaid : Prop := Claim7.holds Tryd.pinned (.plain (OpenSpec.upto fnExactFormatRelSpec)) fnExactFormatRelUptoCard

/-- THE SECOND FORM's CARD OF 'laws.FnExactParseRel'. -/
def fnExactParseRelUptoCard : Claim7 := { stood := { row := fnExactParseRelUptoRow, standIns := [], harness := (true, "ecf4addd128a23127e224ed9303d1ecfd899b917f6dce197966f26440d5163ca"), looks := false }, kinds := [], alts := [], laidByText := true, laidKinds := [.data], laidTests := true, laidLooks := .later }
def FnExactParseRelUptoCardSaid : Prop := Claim7.holds Tryd.pinned (.plain (OpenSpec.upto fnExactParseRelSpec)) fnExactParseRelUptoCard

/-- THE SECOND FORM's CARD OF 'laws.FnExactRelHolds'. -/
def fnExactRelHoldsUptoCard : Claim7 := { stood := { row := fnExactRelHoldsUptoRow, standIns := [], harness := (true, "ecf4addd128a23127e224ed9303d1ecfd899b917f6dce197966f26440d5163ca"), looks := false }, kinds := [], alts := [], laidByText := true, laidKinds := [.data], laidTests := true, laidLooks := .later }
def FnExactRelHoldsUptoCardSaid : Prop := Claim7.holds Tryd.pinned (.plain (OpenSpec.upto fnExactRelHoldsSpec)) fnExactRelHoldsUptoCard

/-- THE SECOND FORM's CARD OF 'laws.FnExactTurnRel'. -/
def fnExactTurnRelUptoCard : Claim7 := { stood := { row := fnExactTurnRelUptoRow, standIns := [], harness := (true, "ecf4addd128a23127e224ed9303d1ecfd899b917f6dce197966f26440d5163ca"), looks := false }, kinds := [], alts := [], laidByText := true, laidKinds := [.data], laidTests := true, laidLooks := .later }
def FnExactTurnRelUptoCardSaid : Prop := Claim7.holds Tryd.pinned (.plain (OpenSpec.upto fnExactTurnRelSpec)) fnExactTurnRelUptoCard

/-- THE SECOND FORM's CARD OF 'laws.FnExactMirrorRel'. -/
def fnExactMirrorRelUptoCard : Claim7 := { stood := { row := fnExactMirrorRelUptoRow, standIns := [], harness := (true, "ecf4addd128a23127e224ed9303d1ecfd899b917f6dce197966f26440d5163ca"), looks := false }, kinds := [], alts := [], laidByText := true, laidKinds := [.data], laidTests := true, laidLooks := .later }
def FnExactMirrorRelUptoCardSaid : Prop := Claim7.holds Tryd.pinned (.plain (OpenSpec.upto fnExactMirrorRelSpec)) fnExactMirrorRelUptoCard

/-- THE SECOND FORM's CARD OF 'laws.FnExactComposeBasic'. -/
def fnExactComposeBasicUptoCard : Claim7 := { stood := { row := fnExactComposeBasicUptoRow, standIns := [], harness := (true, "ecf4addd128a23127e224ed9303d1ecfd899b917f6dce197966f26440d5163ca"), looks := false }, kinds := [], alts := [], laidByText := true, laidKinds := [.data], laidTests := true, laidLooks := .later }
def FnExactComposeBasicUptoCardSaid : Prop := Claim7.holds Tryd.pinned (.plain (OpenSpec.upto fnExactComposeBasicSpec)) fnExactComposeBasicUptoCard

/-- THE SECOND FORM's CARD OF 'laws.FnExactComposeRel'. -/
def fnExactComposeRelUptoCard : Claim7 := { stood := { row := fnExactComposeRelUptoRow, standIns := [], harness := (true, "ecf4addd128a23127e224ed9303d1ecfd899b917f6dce197966f26440d5163ca"), looks := false }, kinds := [], alts := [], laidByText := true, laidKinds := [.data], laidTests := true, laidLooks := .later }
def FnExactComposeRelUptoCardSaid : Prop := Claim7.holds Tryd.pinned (.plain (OpenSpec.upto fnExactComposeRelSpec)) fnExactComposeRelUptoCard

/-- THE SECOND FORM's CARD OF 'laws.FnExactNamedRel'. -/
def fnExactNamedRelUptoCard : Claim7 := { stood := { row := fnExactNamedRelUptoRow, standIns := [], harness := (true, "ecf4addd128a23127e224ed9303d1ecfd899b917f6dce197966f26440d5163ca"), looks := false }, kinds := [], alts := [], laidByText := true, laidKinds := [.data, .data], laidTests := true, laidLooks := .later }
def FnExactNamedRelUptoCardSaid : Prop := Claim7.holds Tryd.pinned (.plain (OpenSpec.upto fnExactNamedRelSpec)) fnExactNamedRelUptoCard

/-- THE SECOND FORM's CARD OF 'laws.FnExactResidualRel'. -/
def fnExactResidualRelUptoCard : Claim7 := { stood := { row := fnExactResidualRelUptoRow, standIns := [], harness := (true, "ecf4addd128a23127e224ed9303d1ecfd899b917f6dce197966f26440d5163ca"), looks := false }, kinds := [], alts := [], laidByText := true, laidKinds := [.data], laidTests := true, laidLooks := .later }
def FnExactResidualRelUptoCardSaid : Prop := Claim7.holds Tryd.pinned (.plain (OpenSpec.upto fnExactResidualRelSpec)) fnExactResidualRelUptoCard
end Rows
end Go.Proofs.YthldegohihkkiaaDoor
