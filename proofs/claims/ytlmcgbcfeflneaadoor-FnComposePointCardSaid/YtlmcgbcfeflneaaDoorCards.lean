/-
  DERIVED. GIVEN WITH THE SEED: THE CARDS: each row of YtlmcgbcfeflneaaDoorRows.lean that lists a variable, with what it lists TIED to the program's text (the seventh form; the later family's looks); each row that meets fmt, with fmt's text TOLD by the authors' own Lean function (tested against real Go, not proved from fmt's source: count such statements apart). THE CARD IS WHAT COUNTS. Prove the row's statement (the work); the ties are given (YtlmcgbcfeflneaaDoorTie.lean); close each card by the builder's one call (the guide's Derived/Test/ToyasCard.lean, 'card_holds'). Laid BY PROGRAM, IN A SANDBOX (cutbox-door.mjs). By AI agents, Wed Nov 11 2026. No macro, syntax, notation, axiom, sorry.
-/
import Derived.Test.YtlmcgbcfeflneaaDoorRows
import GoSem.ClaimSeven
namespace Go.Proofs.YtlmcgbcfeflneaaDoor
namespace Rows

/-- THE TIED CARD OF 'laws.FnOrderOf'. -/
def fnOrderOfCard : Claim7 := { stood := { row := fnOrderOfRow, standIns := [], harness := (true, "5bdc7fa8055f4f3f02bb1db03401795896a7dd35dc2cb45a5a2d205283643ea5"), looks := false }, kinds := [], alts := [], laidByText := true, laidKinds := [.data], laidTests := true, laidLooks := .later }
def FnOrderOfCardSaid : Prop := Claim7.holds Tryd.pinned (.plain (OpenSpec.ofChange fnOrderOfSpec)) fnOrderOfCard

/-- THE TIED CARD OF 'laws.FnPointText'. -/
def fnPointTextCard : Claim7 := { stood := { row := fnPointTextRow, standIns := [], harness := (true, "5bdc7fa8055f4f3f02bb1db03401795896a7dd35dc2cb45a5a2d205283643ea5"), looks := false }, kinds := [], alts := [], laidByText := true, laidKinds := [.data], laidTests := true, laidLooks := .later }
def FnPointTextCardSaid : Prop := Claim7.holds Tryd.pinned (.plain (OpenSpec.ofChange fnPointTextSpec)) fnPointTextCard

/-- THE TIED CARD OF 'laws.FnComposePoint'. -/
def fnComposePointCard : Claim7 := { stood := { row := fnComposePointRow, standIns := [], harness := (true, "5bdc7fa8055f4f3f02bb1db03401795896a7dd35dc2cb45a5a2d205283643ea5"), looks := false }, kinds := [], alts := [], laidByText := true, laidKinds := [.data], laidTests := true, laidLooks := .later }
def FnComposePointCardSaid : Prop := Claim7.holds Tryd.pinned (.plain (OpenSpec.ofChange fnComposePointSpec)) fnComposePointCard

/-- THE TIED CARD OF 'laws.FnTurnPoint'. -/
def fnTurnPointCard : Claim7 := { stood := { row := fnTurnPointRow, standIns := [], harness := (true, "5bdc7fa8055f4f3f02bb1db03401795896a7dd35dc2cb45a5a2d205283643ea5"), looks := false }, kinds := [], alts := [], laidByText := true, laidKinds := [.data], laidTests := true, laidLooks := .later }
def FnTurnPointCardSaid : Prop := Claim7.holds Tryd.pinned (.plain (OpenSpec.ofChange fnTurnPointSpec)) fnTurnPointCard

/-- THE TIED CARD OF 'laws.FnExactFormatPoint'. -/
def fnExactFormatPointCard : Claim7 := { stood := { row := fnExactFormatPointRow, standIns := [], harness := (true, "5bdc7fa8055f4f3f02bb1db03401795896a7dd35dc2cb45a5a2d205283643ea5"), looks := false }, kinds := [], alts := [], laidByText := true, laidKinds := [.data], laidTests := true, laidLooks := .later }
def FnExactFormatPointCardSaid : Prop := Claim7.holds Tryd.pinned (.plain (OpenSpec.ofChange fnExactFormatPointSpec)) fnExactFormatPointCard

/-- THE TIED CARD OF 'laws.FnExactParsePoint'. -/
def fnExactParsePointCard : Claim7 := { stood := { row := fnExactParsePointRow, standIns := [], harness := (true, "5bdc7fa8055f4f3f02bb1db03401795896a7dd35dc2cb45a5a2d205283643ea5"), looks := false }, kinds := [], alts := [], laidByText := true, laidKinds := [.data], laidTests := true, laidLooks := .later }
def FnExactParsePointCardSaid : Prop := Claim7.holds Tryd.pinned (.plain (OpenSpec.ofChange fnExactParsePointSpec)) fnExactParsePointCard

/-- THE TIED CARD OF 'laws.FnExactTurnPoint'. -/
def fnExactTurnPointCard : Claim7 := { stood := { row := fnExactTurnPointRow, standIns := [], harness := (true, "5bdc7fa8055f4f3f02bb1db03401795896a7dd35dc2cb45a5a2d205283643ea5"), looks := false }, kinds := [], alts := [], laidByText := true, laidKinds := [.data], laidTests := true, laidLooks := .later }
def FnExactTurnPointCardSaid : Prop := Claim7.holds Tryd.pinned (.plain (OpenSpec.ofChange fnExactTurnPointSpec)) fnExactTurnPointCard

/-- THE TIED CARD OF 'laws.FnExactComposePoint'. -/
def fnExactComposePointCard : Claim7 := { stood := { row := fnExactComposePointRow, standIns := [], harness := (true, "5bdc7fa8055f4f3f02bb1db03401795896a7dd35dc2cb45a5a2d205283643ea5"), looks := false }, kinds := [], alts := [], laidByText := true, laidKinds := [.data], laidTests := true, laidLooks := .later }
def FnExactComposePointCardSaid : Prop := Claim7.holds Tryd.pinned (.plain (OpenSpec.ofChange fnExactComposePointSpec)) fnExactComposePointCard

/-- THE SECOND FORM's CARD OF 'laws.FnOrderOf'. -/
def fnOrderOfUptoCard : Claim7 := { stood := { row := fnOrderOfUptoRow, standIns := [], harness := (true, "5bdc7fa8055f4f3f02bb1db03401795896a7dd35dc2cb45a5a2d205283643ea5"), looks := false }, kinds := [], alts := [], laidByText := true, laidKinds := [.data], laidTests := true, laidLooks := .later }
def FnOrderOfUptoCardSaid : Prop := Claim7.holds Tryd.pinned (.plain (OpenSpec.upto fnOrderOfSpec)) fnOrderOfUptoCard

/-- THE SECOND FORM's CARD OF 'laws.FnPointText'. -/
def fnPointTextUptoCard : Claim7 := { stood := { row := fnPointTextUptoRow, standIns := [], harness := (true, "5bdc7fa8055f4f3f02bb1db03401795896a7dd35dc2cb45a5a2d205283643ea5"), looks := false }, kinds := [], alts := [], laidByText := true, laidKinds := [.data], laidTests := true, laidLooks := .later }
def FnPointTextUptoCardSaid : Prop := Claim7.holds Tryd.pinned (.plain (OpenSpec.upto fnPointTextSpec)) fnPointTextUptoCard

/-- THE SECOND FORM's CARD OF 'laws.FnComposePoint'. -/
def fnComposePointUptoCard : Claim7 := { stood := { row := fnComposePointUptoRow, standIns := [], harness := (true, "5bdc7fa8055f4f3f02bb1db03401795896a7dd35dc2cb45a5a2d205283643ea5"), looks := false }, kinds := [], alts := [], laidByText := true, laidKinds := [.data], laidTests := true, laidLooks := .later }
def FnComposePointUptoCardSaid : Prop := Claim7.holds Tryd.pinned (.plain (OpenSpec.upto fnComposePointSpec)) fnComposePointUptoCard

/-- THE SECOND FORM's CARD OF 'laws.FnTurnPoint'. -/
def fnTurnPointUptoCard : Claim7 := { stood := { row := fnTurnPointUptoRow, standIns := [], harness := (true, "5bdc7fa8055f4f3f02bb1db03401795896a7dd35dc2cb45a5a2d205283643ea5"), looks := false }, kinds := [], alts := [], laidByText := true, laidKinds := [.data], laidTests := true, laidLooks := .later }
def FnTurnPointUptoCardSaid : Prop := Claim7.holds Tryd.pinned (.plain (OpenSpec.upto fnTurnPointSpec)) fnTurnPointUptoCard

/-- THE SECOND FORM's CARD OF 'laws.FnExactFormatPoint'. -/
def fnExactFormatPointUptoCard : Claim7 := { stood := { row := fnExactFormatPointUptoRow, standIns := [], harness := (true, "5bdc7fa8055f4f3f02bb1db03401795896a7dd35dc2cb45a5a2d205283643ea5"), looks := false }, kinds := [], alts := [], laidByText := true, laidKinds := [.data], laidTests := true, laidLooks := .later }
def FnExactFormatPointUptoCardSaid : Prop := Claim7.holds Tryd.pinned (.plain (OpenSpec.upto fnExactFormatPointSpec)) fnExactFormatPointUptoCard

/-- THE SECOND FORM's CARD OF 'laws.FnExactParsePoint'. -/
def fnExactParsePointUptoCard : Claim7 := { stood := { row := fnExactParsePointUptoRow, standIns := [], harness := (true, "5bdc7fa8055f4f3f02bb1db03401795896a7dd35dc2cb45a5a2d205283643ea5"), looks := false }, kinds := [], alts := [], laidByText := true, laidKinds := [.data], laidTests := true, laidLooks := .later }
def FnExactParsePointUptoCardSaid : Prop := Claim7.holds Tryd.pinned (.plain (OpenSpec.upto fnExactParsePointSpec)) fnExactParsePointUptoCard

/-- THE SECOND FORM's CARD OF 'laws.FnExactTurnPoint'. -/
def fnExactTurnPointUptoCard : Claim7 := { stood := { row := fnExactTurnPointUptoRow, standIns := [], harness := (true, "5bdc7fa8055f4f3f02bb1db03401795896a7dd35dc2cb45a5a2d205283643ea5"), looks := false }, kinds := [], alts := [], laidByText := true, laidKinds := [.data], laidTests := true, laidLooks := .later }
def FnExactTurnPointUptoCardSaid : Prop := Claim7.holds Tryd.pinned (.plain (OpenSpec.upto fnExactTurnPointSpec)) fnExactTurnPointUptoCard

/-- THE SECOND FORM's CARD OF 'laws.FnExactComposePoint'. -/
def fnExactComposePointUptoCard : Claim7 := { stood := { row := fnExactComposePointUptoRow, standIns := [], harness := (true, "5bdc7fa8055f4f3f02bb1db03401795896a7dd35dc2cb45a5a2d205283643ea5"), looks := false }, kinds := [], alts := [], laidByText := true, laidKinds := [.data], laidTests := true, laidLooks := .later }
def FnExactComposePointUptoCardSaid : Prop := Claim7.holds Tryd.pinned (.plain (OpenSpec.upto fnExactComposePointSpec)) fnExactComposePointUptoCard
end Rows
end Go.Proofs.YtlmcgbcfeflneaaDoor
