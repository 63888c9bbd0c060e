/-
  DERIVED. GIVEN WITH THE SEED: THE CARDS: each row of YtnogdjmciekieabDoorRows.lean that lists a variable, with what it lists TIED to the program's text (the seventh form; the later family's looks); each row that meets fmt, with fmt's text TOLD by the authors' own Lean function (tested against real Go, not proved from fmt's source: count such statements apart). THE CARD IS WHAT COUNTS. Prove the row's statement (the work); the ties are given (YtnogdjmciekieabDoorTie.lean); close each card by the builder's one call (the guide's Derived/Test/ToyasCard.lean, 'card_holds'). Laid BY PROGRAM, IN A SANDBOX (cutbox-door.mjs). By AI agents, Wed Nov 11 2026. No macro, syntax, notation, axiom, sorry.
-/
import Derived.Test.YtnogdjmciekieabDoorRows
import GoSem.ClaimSeven
namespace Go.Proofs.YtnogdjmciekieabDoor
namespace Rows

/-- THE TIED CARD OF 'laws.FnRelIn'. -/
def fnRelInCard : Claim7 := { stood := { row := fnRelInRow, standIns := [], harness := (true, "cbbd3db07f049f865767bcdd1c3fc6720f327cc1aa54ee347a53dc9c3e6bb0a4"), looks := false }, kinds := [], alts := [], laidByText := true, laidKinds := [.data], laidTests := true, laidLooks := .later }
def FnRelInCardSaid : Prop := Claim7.holds Tryd.pinned (.plain (OpenSpec.ofChange fnRelInSpec)) fnRelInCard

/-- THE TIED CARD OF 'laws.FnPutRel'. -/
def fnPutRelCard : Claim7 := { stood := { row := fnPutRelRow, standIns := [], harness := (true, "cbbd3db07f049f865767bcdd1c3fc6720f327cc1aa54ee347a53dc9c3e6bb0a4"), looks := false }, kinds := [], alts := [], laidByText := true, laidKinds := [.data], laidTests := true, laidLooks := .later }
def FnPutRelCardSaid : Prop := Claim7.holds Tryd.pinned (.plain (OpenSpec.ofChange fnPutRelSpec)) fnPutRelCard

/-- THE TIED CARD OF 'laws.FnShiftModel'. -/
def fnShiftModelCard : Claim7 := { stood := { row := fnShiftModelRow, standIns := [], harness := (true, "cbbd3db07f049f865767bcdd1c3fc6720f327cc1aa54ee347a53dc9c3e6bb0a4"), looks := false }, kinds := [], alts := [], laidByText := true, laidKinds := [.data], laidTests := true, laidLooks := .later }
def FnShiftModelCardSaid : Prop := Claim7.holds Tryd.pinned (.plain (OpenSpec.ofChange fnShiftModelSpec)) fnShiftModelCard

/-- THE TIED CARD OF 'laws.FnSpan'. -/
def fnSpanCard : Claim7 := { stood := { row := fnSpanRow, standIns := [], harness := (true, "cbbd3db07f049f865767bcdd1c3fc6720f327cc1aa54ee347a53dc9c3e6bb0a4"), looks := false }, kinds := [], alts := [], laidByText := true, laidKinds := [.data, .data], laidTests := true, laidLooks := .later }
def FnSpanCardSaid : Prop := Claim7.holds Tryd.pinned (.plain (OpenSpec.ofChange fnSpanSpec)) fnSpanCard

/-- THE SECOND FORM's CARD OF 'laws.FnRelIn'. -/
def fnRelInUptoCard : Claim7 := { stood := { row := fnRelInUptoRow, standIns := [], harness := (true, "cbbd3db07f049f865767bcdd1c3fc6720f327cc1aa54ee347a53dc9c3e6bb0a4"), looks := false }, kinds := [], alts := [], laidByText := true, laidKinds := [.data], laidTests := true, laidLooks := .later }
def FnRelInUptoCardSaid : Prop := Claim7.holds Tryd.pinned (.plain (OpenSpec.upto fnRelInSpec)) fnRelInUptoCard

/-- THE SECOND FORM's CARD OF 'laws.FnPutRel'. -/
def fnPutRelUptoCard : Claim7 := { stood := { row := fnPutRelUptoRow, standIns := [], harness := (true, "cbbd3db07f049f865767bcdd1c3fc6720f327cc1aa54ee347a53dc9c3e6bb0a4"), looks := false }, kinds := [], alts := [], laidByText := true, laidKinds := [.data], laidTests := true, laidLooks := .later }
def FnPutRelUptoCardSaid : Prop := Claim7.holds Tryd.pinned (.plain (OpenSpec.upto fnPutRelSpec)) fnPutRelUptoCard

/-- THE SECOND FORM's CARD OF 'laws.FnShiftModel'. -/
def fnShiftModelUptoCard : Claim7 := { stood := { row := fnShiftModelUptoRow, standIns := [], harness := (true, "cbbd3db07f049f865767bcdd1c3fc6720f327cc1aa54ee347a53dc9c3e6bb0a4"), looks := false }, kinds := [], alts := [], laidByText := true, laidKinds := [.data], laidTests := true, laidLooks := .later }
def FnShiftModelUptoCardSaid : Prop := Claim7.holds Tryd.pinned (.plain (OpenSpec.upto fnShiftModelSpec)) fnShiftModelUptoCard

/-- THE SECOND FORM's CARD OF 'laws.FnSpan'. -/
def fnSpanUptoCard : Claim7 := { stood := { row := fnSpanUptoRow, standIns := [], harness := (true, "cbbd3db07f049f865767bcdd1c3fc6720f327cc1aa54ee347a53dc9c3e6bb0a4"), looks := false }, kinds := [], alts := [], laidByText := true, laidKinds := [.data, .data], laidTests := true, laidLooks := .later }
def FnSpanUptoCardSaid : Prop := Claim7.holds Tryd.pinned (.plain (OpenSpec.upto fnSpanSpec)) fnSpanUptoCard
end Rows
end Go.Proofs.YtnogdjmciekieabDoor
