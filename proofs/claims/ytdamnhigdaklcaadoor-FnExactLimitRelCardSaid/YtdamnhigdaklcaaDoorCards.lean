/-
  DERIVED. GIVEN WITH THE SEED: THE CARDS: each row of YtdamnhigdaklcaaDoorRows.lean that lists a variable, with what it lists TIED to the program's text (the seventh form; the later family's looks); each row that meets fmt, with fmt's text TOLD by the authors' own Lean function (tested against real Go, not proved from fmt's source: count such statements apart). THE CARD IS WHAT COUNTS. Prove the row's statement (the work); the ties are given (YtdamnhigdaklcaaDoorTie.lean); close each card by the builder's one call (the guide's Derived/Test/ToyasCard.lean, 'card_holds'). Laid BY PROGRAM, IN A SANDBOX (cutbox-door.mjs). By AI agents, Wed Nov 11 2026. No macro, syntax, notation, axiom, sorry.
-/
import Derived.Test.YtdamnhigdaklcaaDoorRows
import GoSem.ClaimSeven
namespace Go.Proofs.YtdamnhigdaklcaaDoor
namespace Rows

/-- THE TIED CARD OF 'laws.FnExactNetValid'. -/
def fnExactNetValidCard : Claim7 := { stood := { row := fnExactNetValidRow, standIns := [], harness := (true, "f1831e2ec2125bc9ba3b4dd1159034c121f226d193b6d310fa942a7813bab1db"), looks := false }, kinds := [], alts := [], laidByText := true, laidKinds := [.data], laidTests := true, laidLooks := .later }
def FnExactNetValidCardSaid : Prop := Claim7.holds Tryd.pinned (.plain (OpenSpec.ofChange fnExactNetValidSpec)) fnExactNetValidCard

/-- THE TIED CARD OF 'laws.FnExactRelIn'. -/
def fnExactRelInCard : Claim7 := { stood := { row := fnExactRelInRow, standIns := [], harness := (true, "f1831e2ec2125bc9ba3b4dd1159034c121f226d193b6d310fa942a7813bab1db"), looks := false }, kinds := [], alts := [], laidByText := true, laidKinds := [.data], laidTests := true, laidLooks := .later }
def FnExactRelInCardSaid : Prop := Claim7.holds Tryd.pinned (.plain (OpenSpec.ofChange fnExactRelInSpec)) fnExactRelInCard

/-- THE TIED CARD OF 'laws.FnExactPutRel'. -/
def fnExactPutRelCard : Claim7 := { stood := { row := fnExactPutRelRow, standIns := [], harness := (true, "f1831e2ec2125bc9ba3b4dd1159034c121f226d193b6d310fa942a7813bab1db"), looks := false }, kinds := [], alts := [], laidByText := true, laidKinds := [.data], laidTests := true, laidLooks := .later }
def FnExactPutRelCardSaid : Prop := Claim7.holds Tryd.pinned (.plain (OpenSpec.ofChange fnExactPutRelSpec)) fnExactPutRelCard

/-- THE TIED CARD OF 'laws.FnExactLimitRel'. -/
def fnExactLimitRelCard : Claim7 := { stood := { row := fnExactLimitRelRow, standIns := [], harness := (true, "f1831e2ec2125bc9ba3b4dd1159034c121f226d193b6d310fa942a7813bab1db"), looks := false }, kinds := [], alts := [], laidByText := true, laidKinds := [.data], laidTests := true, laidLooks := .later }
def FnExactLimitRelCardSaid : Prop := Claim7.holds Tryd.pinned (.plain (OpenSpec.ofChange fnExactLimitRelSpec)) fnExactLimitRelCard

/-- THE TIED CARD OF 'laws.FnExactPartNet'. -/
def fnExactPartNetCard : Claim7 := { stood := { row := fnExactPartNetRow, standIns := [], harness := (true, "f1831e2ec2125bc9ba3b4dd1159034c121f226d193b6d310fa942a7813bab1db"), looks := false }, kinds := [], alts := [], laidByText := true, laidKinds := [.data], laidTests := true, laidLooks := .later }
def FnExactPartNetCardSaid : Prop := Claim7.holds Tryd.pinned (.plain (OpenSpec.ofChange fnExactPartNetSpec)) fnExactPartNetCard

/-- THE TIED CARD OF 'laws.FnExactMeetNets'. -/
def fnExactMeetNetsCard : Claim7 := { stood := { row := fnExactMeetNetsRow, standIns := [], harness := (true, "f1831e2ec2125bc9ba3b4dd1159034c121f226d193b6d310fa942a7813bab1db"), looks := false }, kinds := [], alts := [], laidByText := true, laidKinds := [.data], laidTests := true, laidLooks := .later }
def FnExactMeetNetsCardSaid : Prop := Claim7.holds Tryd.pinned (.plain (OpenSpec.ofChange fnExactMeetNetsSpec)) fnExactMeetNetsCard

/-- THE TIED CARD OF 'laws.FnExactWithinNet'. -/
def fnExactWithinNetCard : Claim7 := { stood := { row := fnExactWithinNetRow, standIns := [], harness := (true, "f1831e2ec2125bc9ba3b4dd1159034c121f226d193b6d310fa942a7813bab1db"), looks := false }, kinds := [], alts := [], laidByText := true, laidKinds := [.data], laidTests := true, laidLooks := .later }
def FnExactWithinNetCardSaid : Prop := Claim7.holds Tryd.pinned (.plain (OpenSpec.ofChange fnExactWithinNetSpec)) fnExactWithinNetCard

/-- THE TIED CARD OF 'laws.FnExactMirrorNet'. -/
def fnExactMirrorNetCard : Claim7 := { stood := { row := fnExactMirrorNetRow, standIns := [], harness := (true, "f1831e2ec2125bc9ba3b4dd1159034c121f226d193b6d310fa942a7813bab1db"), looks := false }, kinds := [], alts := [], laidByText := true, laidKinds := [.data], laidTests := true, laidLooks := .later }
def FnExactMirrorNetCardSaid : Prop := Claim7.holds Tryd.pinned (.plain (OpenSpec.ofChange fnExactMirrorNetSpec)) fnExactMirrorNetCard

/-- THE TIED CARD OF 'laws.FnExactCountChoices'. -/
def fnExactCountChoicesCard : Claim7 := { stood := { row := fnExactCountChoicesRow, standIns := [], harness := (true, "f1831e2ec2125bc9ba3b4dd1159034c121f226d193b6d310fa942a7813bab1db"), looks := false }, kinds := [], alts := [], laidByText := true, laidKinds := [.data], laidTests := true, laidLooks := .later }
def FnExactCountChoicesCardSaid : Prop := Claim7.holds Tryd.pinned (.plain (OpenSpec.ofChange fnExactCountChoicesSpec)) fnExactCountChoicesCard

/-- THE TIED CARD OF 'laws.FnExactNetOf'. -/
def fnExactNetOfCard : Claim7 := { stood := { row := fnExactNetOfRow, standIns := [], harness := (true, "f1831e2ec2125bc9ba3b4dd1159034c121f226d193b6d310fa942a7813bab1db"), looks := false }, kinds := [], alts := [], laidByText := true, laidKinds := [.data], laidTests := true, laidLooks := .later }
def FnExactNetOfCardSaid : Prop := Claim7.holds Tryd.pinned (.plain (OpenSpec.ofChange fnExactNetOfSpec)) fnExactNetOfCard

/-- THE TIED CARD OF 'laws.FnExactNetHolds'. -/
def fnExactNetHoldsCard : Claim7 := { stood := { row := fnExactNetHoldsRow, standIns := [], harness := (true, "f1831e2ec2125bc9ba3b4dd1159034c121f226d193b6d310fa942a7813bab1db"), looks := false }, kinds := [], alts := [], laidByText := true, laidKinds := [.data], laidTests := true, laidLooks := .later }
def FnExactNetHoldsCardSaid : Prop := Claim7.holds Tryd.pinned (.plain (OpenSpec.ofChange fnExactNetHoldsSpec)) fnExactNetHoldsCard

/-- THE SECOND FORM's CARD OF 'laws.FnExactNetValid'. -/
def fnExactNetValidUptoCard : Claim7 := { stood := { row := fnExactNetValidUptoRow, standIns := [], harness := (true, "f1831e2ec2125bc9ba3b4dd1159034c121f226d193b6d310fa942a7813bab1db"), looks := false }, kinds := [], alts := [], laidByText := true, laidKinds := [.data], laidTests := true, laidLooks := .later }
def FnExactNetValidUptoCardSaid : Prop := Claim7.holds Tryd.pinned (.plain (OpenSpec.upto fnExactNetValidSpec)) fnExactNetValidUptoCard

/-- THE SECOND FORM's CARD OF 'laws.FnExactRelIn'. -/
def fnExactRelInUptoCard : Claim7 := { stood := { row := fnExactRelInUptoRow, standIns := [], harness := (true, "f1831e2ec2125bc9ba3b4dd1159034c121f226d193b6d310fa942a7813bab1db"), looks := false }, kinds := [], alts := [], laidByText := true, laidKinds := [.data], laidTests := true, laidLooks := .later }
def FnExactRelInUptoCardSaid : Prop := Claim7.holds Tryd.pinned (.plain (OpenSpec.upto fnExactRelInSpec)) fnExactRelInUptoCard

/-- THE SECOND FORM's CARD OF 'laws.FnExactPutRel'. -/
def fnExactPutRelUptoCard : Claim7 := { stood := { row := fnExactPutRelUptoRow, standIns := [], harness := (true, "f1831e2ec2125bc9ba3b4dd1159034c121f226d193b6d310fa942a7813bab1db"), looks := false }, kinds := [], alts := [], laidByText := true, laidKinds := [.data], laidTests := true, laidLooks := .later }
def FnExactPutRelUptoCardSaid : Prop := Claim7.holds Tryd.pinned (.plain (OpenSpec.upto fnExactPutRelSpec)) fnExactPutRelUptoCard

/-- THE SECOND FORM's CARD OF 'laws.FnExactLimitRel'. -/
def fnExactLimitRelUptoCard : Claim7 := { stood := { row := fnExactLimitRelUptoRow, standIns := [], harness := (true, "f1831e2ec2125bc9ba3b4dd1159034c121f226d193b6d310fa942a7813bab1db"), looks := false }, kinds := [], alts := [], laidByText := true, laidKinds := [.data], laidTests := true, laidLooks := .later }
def FnExactLimitRelUptoCardSaid : Prop := Claim7.holds Tryd.pinned (.plain (OpenSpec.upto fnExactLimitRelSpec)) fnExactLimitRelUptoCard

/-- THE SECOND FORM's CARD OF 'laws.FnExactPartNet'. -/
def fnExactPartNetUptoCard : Claim7 := { stood := { row := fnExactPartNetUptoRow, standIns := [], harness := (true, "f1831e2ec2125bc9ba3b4dd1159034c121f226d193b6d310fa942a7813bab1db"), looks := false }, kinds := [], alts := [], laidByText := true, laidKinds := [.data], laidTests := true, laidLooks := .later }
def FnExactPartNetUptoCardSaid : Prop := Claim7.holds Tryd.pinned (.plain (OpenSpec.upto fnExactPartNetSpec)) fnExactPartNetUptoCard

/-- THE SECOND FORM's CARD OF 'laws.FnExactMeetNets'. -/
def fnExactMeetNetsUptoCard : Claim7 := { stood := { row := fnExactMeetNetsUptoRow, standIns := [], harness := (true, "f1831e2ec2125bc9ba3b4dd1159034c121f226d193b6d310fa942a7813bab1db"), looks := false }, kinds := [], alts := [], laidByText := true, laidKinds := [.data], laidTests := true, laidLooks := .later }
def FnExactMeetNetsUptoCardSaid : Prop := Claim7.holds Tryd.pinned (.plain (OpenSpec.upto fnExactMeetNetsSpec)) fnExactMeetNetsUptoCard

/-- THE SECOND FORM's CARD OF 'laws.FnExactWithinNet'. -/
def fnExactWithinNetUptoCard : Claim7 := { stood := { row := fnExactWithinNetUptoRow, standIns := [], harness := (true, "f1831e2ec2125bc9ba3b4dd1159034c121f226d193b6d310fa942a7813bab1db"), looks := false }, kinds := [], alts := [], laidByText := true, laidKinds := [.data], laidTests := true, laidLooks := .later }
def FnExactWithinNetUptoCardSaid : Prop := Claim7.holds Tryd.pinned (.plain (OpenSpec.upto fnExactWithinNetSpec)) fnExactWithinNetUptoCard

/-- THE SECOND FORM's CARD OF 'laws.FnExactMirrorNet'. -/
def fnExactMirrorNetUptoCard : Claim7 := { stood := { row := fnExactMirrorNetUptoRow, standIns := [], harness := (true, "f1831e2ec2125bc9ba3b4dd1159034c121f226d193b6d310fa942a7813bab1db"), looks := false }, kinds := [], alts := [], laidByText := true, laidKinds := [.data], laidTests := true, laidLooks := .later }
def FnExactMirrorNetUptoCardSaid : Prop := Claim7.holds Tryd.pinned (.plain (OpenSpec.upto fnExactMirrorNetSpec)) fnExactMirrorNetUptoCard

/-- THE SECOND FORM's CARD OF 'laws.FnExactCountChoices'. -/
def fnExactCountChoicesUptoCard : Claim7 := { stood := { row := fnExactCountChoicesUptoRow, standIns := [], harness := (true, "f1831e2ec2125bc9ba3b4dd1159034c121f226d193b6d310fa942a7813bab1db"), looks := false }, kinds := [], alts := [], laidByText := true, laidKinds := [.data], laidTests := true, laidLooks := .later }
def FnExactCountChoicesUptoCardSaid : Prop := Claim7.holds Tryd.pinned (.plain (OpenSpec.upto fnExactCountChoicesSpec)) fnExactCountChoicesUptoCard

/-- THE SECOND FORM's CARD OF 'laws.FnExactNetOf'. -/
def fnExactNetOfUptoCard : Claim7 := { stood := { row := fnExactNetOfUptoRow, standIns := [], harness := (true, "f1831e2ec2125bc9ba3b4dd1159034c121f226d193b6d310fa942a7813bab1db"), looks := false }, kinds := [], alts := [], laidByText := true, laidKinds := [.data], laidTests := true, laidLooks := .later }
def FnExactNetOfUptoCardSaid : Prop := Claim7.holds Tryd.pinned (.plain (OpenSpec.upto fnExactNetOfSpec)) fnExactNetOfUptoCard

/-- THE SECOND FORM's CARD OF 'laws.FnExactNetHolds'. -/
def fnExactNetHoldsUptoCard : Claim7 := { stood := { row := fnExactNetHoldsUptoRow, standIns := [], harness := (true, "f1831e2ec2125bc9ba3b4dd1159034c121f226d193b6d310fa942a7813bab1db"), looks := false }, kinds := [], alts := [], laidByText := true, laidKinds := [.data], laidTests := true, laidLooks := .later }
def FnExactNetHoldsUptoCardSaid : Prop := Claim7.holds Tryd.pinned (.plain (OpenSpec.upto fnExactNetHoldsSpec)) fnExactNetHoldsUptoCard
end Rows
end Go.Proofs.YtdamnhigdaklcaaDoor
