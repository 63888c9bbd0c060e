/-
  DERIVED. GIVEN WITH THE SEED: THE CARDS: each row of YtnogdjmciekieaaDoorRows.lean that lists a variable, with what it lists TIED to the program's text (the seventh form; the later family's looks); each row that meets fmt, with fmt's text TOLD by the authors' own Lean function (tested against real Go, not proved from fmt's source: count such statements apart). THE CARD IS WHAT COUNTS. Prove the row's statement (the work); the ties are given (YtnogdjmciekieaaDoorTie.lean); close each card by the builder's one call (the guide's Derived/Test/ToyasCard.lean, 'card_holds'). Laid BY PROGRAM, IN A SANDBOX (cutbox-door.mjs). By AI agents, Wed Nov 11 2026. No macro, syntax, notation, axiom, sorry.
-/
import Derived.Test.YtnogdjmciekieaaDoorRows
import GoSem.ClaimSeven
namespace Go.Proofs.YtnogdjmciekieaaDoor
namespace Rows

/-- THE TIED CARD OF 'laws.FnExactNetOf'. -/
def fnExactNetOfCard : Claim7 := { stood := { row := fnExactNetOfRow, standIns := [], harness := (true, "f77b520740fff0b9e071e252617a27fb51254246625ab2ca9c40e0c4be2e0efe"), looks := false }, kinds := [], alts := [], laidByText := true, laidKinds := [.data], laidTests := true, laidLooks := .later }
def FnExactNetOfCardSaid : Prop := Claim7.holds Tryd.pinned (.plain (OpenSpec.ofChange fnExactNetOfSpec)) fnExactNetOfCard

/-- THE TIED CARD OF 'laws.FnExactNetHolds'. -/
def fnExactNetHoldsCard : Claim7 := { stood := { row := fnExactNetHoldsRow, standIns := [], harness := (true, "f77b520740fff0b9e071e252617a27fb51254246625ab2ca9c40e0c4be2e0efe"), looks := false }, kinds := [], alts := [], laidByText := true, laidKinds := [.data], laidTests := true, laidLooks := .later }
def FnExactNetHoldsCardSaid : Prop := Claim7.holds Tryd.pinned (.plain (OpenSpec.ofChange fnExactNetHoldsSpec)) fnExactNetHoldsCard

/-- THE TIED CARD OF 'laws.FnExactPartNet'. -/
def fnExactPartNetCard : Claim7 := { stood := { row := fnExactPartNetRow, standIns := [], harness := (true, "f77b520740fff0b9e071e252617a27fb51254246625ab2ca9c40e0c4be2e0efe"), looks := false }, kinds := [], alts := [], laidByText := true, laidKinds := [.data], laidTests := true, laidLooks := .later }
def FnExactPartNetCardSaid : Prop := Claim7.holds Tryd.pinned (.plain (OpenSpec.ofChange fnExactPartNetSpec)) fnExactPartNetCard

/-- THE TIED CARD OF 'laws.FnWhyTriangle'. -/
def fnWhyTriangleCard : Claim7 := { stood := { row := fnWhyTriangleRow, standIns := [], harness := (true, "f77b520740fff0b9e071e252617a27fb51254246625ab2ca9c40e0c4be2e0efe"), looks := false }, kinds := [], alts := [], laidByText := true, laidKinds := [.data], laidTests := true, laidLooks := .later }
def FnWhyTriangleCardSaid : Prop := Claim7.holds Tryd.pinned (.plain (OpenSpec.ofChange fnWhyTriangleSpec)) fnWhyTriangleCard

/-- THE SECOND FORM's CARD OF 'laws.FnExactNetOf'. -/
def fnExactNetOfUptoCard : Claim7 := { stood := { row := fnExactNetOfUptoRow, standIns := [], harness := (true, "f77b520740fff0b9e071e252617a27fb51254246625ab2ca9c40e0c4be2e0efe"), looks := false }, kinds := [], alts := [], laidByText := true, laidKinds := [.data], laidTests := true, laidLooks := .later }
def FnExactNetOfUptoCardSaid : Prop := Claim7.holds Tryd.pinned (.plain (OpenSpec.upto fnExactNetOfSpec)) fnExactNetOfUptoCard

/-- THE SECOND FORM's CARD OF 'laws.FnExactNetHolds'. -/
def fnExactNetHoldsUptoCard : Claim7 := { stood := { row := fnExactNetHoldsUptoRow, standIns := [], harness := (true, "f77b520740fff0b9e071e252617a27fb51254246625ab2ca9c40e0c4be2e0efe"), looks := false }, kinds := [], alts := [], laidByText := true, laidKinds := [.data], laidTests := true, laidLooks := .later }
def FnExactNetHoldsUptoCardSaid : Prop := Claim7.holds Tryd.pinned (.plain (OpenSpec.upto fnExactNetHoldsSpec)) fnExactNetHoldsUptoCard

/-- THE SECOND FORM's CARD OF 'laws.FnExactPartNet'. -/
def fnExactPartNetUptoCard : Claim7 := { stood := { row := fnExactPartNetUptoRow, standIns := [], harness := (true, "f77b520740fff0b9e071e252617a27fb51254246625ab2ca9c40e0c4be2e0efe"), looks := false }, kinds := [], alts := [], laidByText := true, laidKinds := [.data], laidTests := true, laidLooks := .later }
def FnExactPartNetUptoCardSaid : Prop := Claim7.holds Tryd.pinned (.plain (OpenSpec.upto fnExactPartNetSpec)) fnExactPartNetUptoCard

/-- THE SECOND FORM's CARD OF 'laws.FnWhyTriangle'. -/
def fnWhyTriangleUptoCard : Claim7 := { stood := { row := fnWhyTriangleUptoRow, standIns := [], harness := (true, "f77b520740fff0b9e071e252617a27fb51254246625ab2ca9c40e0c4be2e0efe"), looks := false }, kinds := [], alts := [], laidByText := true, laidKinds := [.data], laidTests := true, laidLooks := .later }
def FnWhyTriangleUptoCardSaid : Prop := Claim7.holds Tryd.pinned (.plain (OpenSpec.upto fnWhyTriangleSpec)) fnWhyTriangleUptoCard
end Rows
end Go.Proofs.YtnogdjmciekieaaDoor
