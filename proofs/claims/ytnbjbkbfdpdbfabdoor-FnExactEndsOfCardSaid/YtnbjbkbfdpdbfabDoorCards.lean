/-
  DERIVED. GIVEN WITH THE SEED: THE CARDS: each row of YtnbjbkbfdpdbfabDoorRows.lean that lists a variable, with what it lists TIED to the program's text (the seventh form; the later family's looks); each row that meets fmt, with fmt's text TOLD by the authors' own Lean function (tested against real Go, not proved from fmt's source: count such statements apart). THE CARD IS WHAT COUNTS. Prove the row's statement (the work); the ties are given (YtnbjbkbfdpdbfabDoorTie.lean); close each card by the builder's one call (the guide's Derived/Test/ToyasCard.lean, 'card_holds'). Laid BY PROGRAM, IN A SANDBOX (cutbox-door.mjs). By AI agents, Wed Nov 11 2026. No macro, syntax, notation, axiom, sorry.
-/
import Derived.Test.YtnbjbkbfdpdbfabDoorRows
import GoSem.ClaimSeven
namespace Go.Proofs.YtnbjbkbfdpdbfabDoor
namespace Rows

/-- THE TIED CARD OF 'laws.FnExactZonesOf'. -/
def fnExactZonesOfCard : Claim7 := { stood := { row := fnExactZonesOfRow, standIns := [], harness := (true, "12b329c6497e43b14f43b859423250c00a6d6547efed5573057b150c3e498da7"), looks := false }, kinds := [], alts := [], laidByText := true, laidKinds := [.data], laidTests := true, laidLooks := .later }
def FnExactZonesOfCardSaid : Prop := Claim7.holds Tryd.pinned (.plain (OpenSpec.ofChange fnExactZonesOfSpec)) fnExactZonesOfCard

/-- THE TIED CARD OF 'laws.FnExactBasicAt'. -/
def fnExactBasicAtCard : Claim7 := { stood := { row := fnExactBasicAtRow, standIns := [], harness := (true, "12b329c6497e43b14f43b859423250c00a6d6547efed5573057b150c3e498da7"), looks := false }, kinds := [], alts := [], laidByText := true, laidKinds := [.data], laidTests := true, laidLooks := .later }
def FnExactBasicAtCardSaid : Prop := Claim7.holds Tryd.pinned (.plain (OpenSpec.ofChange fnExactBasicAtSpec)) fnExactBasicAtCard

/-- THE TIED CARD OF 'laws.FnExactEndsOf'. -/
def fnExactEndsOfCard : Claim7 := { stood := { row := fnExactEndsOfRow, standIns := [], harness := (true, "12b329c6497e43b14f43b859423250c00a6d6547efed5573057b150c3e498da7"), looks := false }, kinds := [], alts := [], laidByText := true, laidKinds := [.data], laidTests := true, laidLooks := .later }
def FnExactEndsOfCardSaid : Prop := Claim7.holds Tryd.pinned (.plain (OpenSpec.ofChange fnExactEndsOfSpec)) fnExactEndsOfCard

/-- THE SECOND FORM's CARD OF 'laws.FnExactZonesOf'. -/
def fnExactZonesOfUptoCard : Claim7 := { stood := { row := fnExactZonesOfUptoRow, standIns := [], harness := (true, "12b329c6497e43b14f43b859423250c00a6d6547efed5573057b150c3e498da7"), looks := false }, kinds := [], alts := [], laidByText := true, laidKinds := [.data], laidTests := true, laidLooks := .later }
def FnExactZonesOfUptoCardSaid : Prop := Claim7.holds Tryd.pinned (.plain (OpenSpec.upto fnExactZonesOfSpec)) fnExactZonesOfUptoCard

/-- THE SECOND FORM's CARD OF 'laws.FnExactBasicAt'. -/
def fnExactBasicAtUptoCard : Claim7 := { stood := { row := fnExactBasicAtUptoRow, standIns := [], harness := (true, "12b329c6497e43b14f43b859423250c00a6d6547efed5573057b150c3e498da7"), looks := false }, kinds := [], alts := [], laidByText := true, laidKinds := [.data], laidTests := true, laidLooks := .later }
def FnExactBasicAtUptoCardSaid : Prop := Claim7.holds Tryd.pinned (.plain (OpenSpec.upto fnExactBasicAtSpec)) fnExactBasicAtUptoCard

/-- THE SECOND FORM's CARD OF 'laws.FnExactEndsOf'. -/
def fnExactEndsOfUptoCard : Claim7 := { stood := { row := fnExactEndsOfUptoRow, standIns := [], harness := (true, "12b329c6497e43b14f43b859423250c00a6d6547efed5573057b150c3e498da7"), looks := false }, kinds := [], alts := [], laidByText := true, laidKinds := [.data], laidTests := true, laidLooks := .later }
def FnExactEndsOfUptoCardSaid : Prop := Claim7.holds Tryd.pinned (.plain (OpenSpec.upto fnExactEndsOfSpec)) fnExactEndsOfUptoCard
end Rows
end Go.Proofs.YtnbjbkbfdpdbfabDoor
