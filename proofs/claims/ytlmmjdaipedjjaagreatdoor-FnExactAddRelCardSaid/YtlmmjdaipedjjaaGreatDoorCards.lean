/-
  DERIVED. GIVEN WITH THE SEED: THE CARDS: each row of YtlmmjdaipedjjaaGreatDoorRows.lean that lists a variable, with what it lists TIED to the program's text (the seventh form; the later family's looks); each row that meets fmt, with fmt's text TOLD by the authors' own Lean function (tested against real Go, not proved from fmt's source: count such statements apart). THE CARD IS WHAT COUNTS. Prove the row's statement (the work); the ties are given (YtlmmjdaipedjjaaGreatDoorTie.lean); close each card by the builder's one call (the guide's Derived/Test/ToyasCard.lean, 'card_holds'). Laid BY PROGRAM, IN A SANDBOX (cutbox-door.mjs). By AI agents, Wed Nov 11 2026. No macro, syntax, notation, axiom, sorry.
-/
import Derived.Test.YtlmmjdaipedjjaaGreatDoorRows
import GoSem.ClaimSeven
namespace Go.Proofs.YtlmmjdaipedjjaaGreatDoor
namespace Rows

/-- THE TIED CARD OF 'laws.FnExactAddRel'. -/
def fnExactAddRelCard : Claim7 := { stood := { row := fnExactAddRelRow, standIns := [], harness := (true, "db2db152ecbe6d043ceab04d8cdf728f2f27f9e8e60c2b83b4b7d64aa2efb714"), looks := false }, kinds := [], alts := [], laidByText := true, laidKinds := [.data], laidTests := true, laidLooks := .later }
def FnExactAddRelCardSaid : Prop := Claim7.holds Tryz.pinned (.plain (OpenSpec.ofChange fnExactAddRelSpec)) fnExactAddRelCard

/-- THE SECOND FORM's CARD OF 'laws.FnExactAddRel'. -/
def fnExactAddRelUptoCard : Claim7 := { stood := { row := fnExactAddRelUptoRow, standIns := [], harness := (true, "db2db152ecbe6d043ceab04d8cdf728f2f27f9e8e60c2b83b4b7d64aa2efb714"), looks := false }, kinds := [], alts := [], laidByText := true, laidKinds := [.data], laidTests := true, laidLooks := .later }
def FnExactAddRelUptoCardSaid : Prop := Claim7.holds Tryz.pinned (.plain (OpenSpec.upto fnExactAddRelSpec)) fnExactAddRelUptoCard
end Rows
end Go.Proofs.YtlmmjdaipedjjaaGreatDoor
