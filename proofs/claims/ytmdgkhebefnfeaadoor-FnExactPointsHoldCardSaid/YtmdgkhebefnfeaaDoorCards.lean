/-
  DERIVED. GIVEN WITH THE SEED: THE CARDS: each row of YtmdgkhebefnfeaaDoorRows.lean that lists a variable, with what it lists TIED to the program's text (the seventh form; the later family's looks); each row that meets fmt, with fmt's text TOLD by the authors' own Lean function (tested against real Go, not proved from fmt's source: count such statements apart). THE CARD IS WHAT COUNTS. Prove the row's statement (the work); the ties are given (YtmdgkhebefnfeaaDoorTie.lean); close each card by the builder's one call (the guide's Derived/Test/ToyasCard.lean, 'card_holds'). Laid BY PROGRAM, IN A SANDBOX (cutbox-door.mjs). By AI agents, Wed Nov 11 2026. No macro, syntax, notation, axiom, sorry.
-/
import Derived.Test.YtmdgkhebefnfeaaDoorRows
import GoSem.ClaimSeven
namespace Go.Proofs.YtmdgkhebefnfeaaDoor
namespace Rows

/-- THE TIED CARD OF 'laws.FnExactPointNetValid'. -/
def fnExactPointNetValidCard : Claim7 := { stood := { row := fnExactPointNetValidRow, standIns := [], harness := (true, "83b4f0ddff6e0be8e1a3f18a5d9e81adb2ff02da0aa5180331f33694692605af"), looks := true }, kinds := [], alts := [], laidByText := true, laidKinds := [.data], laidTests := true, laidLooks := .later }
def FnExactPointNetValidCardSaid : Prop := Claim7.holds Tryd.pinned (.plain (OpenSpec.ofChange fnExactPointNetValidSpec)) fnExactPointNetValidCard

/-- THE TIED CARD OF 'laws.FnExactOrderIn'. -/
def fnExactOrderInCard : Claim7 := { stood := { row := fnExactOrderInRow, standIns := [], harness := (true, "83b4f0ddff6e0be8e1a3f18a5d9e81adb2ff02da0aa5180331f33694692605af"), looks := true }, kinds := [], alts := [], laidByText := true, laidKinds := [.data], laidTests := true, laidLooks := .later }
def FnExactOrderInCardSaid : Prop := Claim7.holds Tryd.pinned (.plain (OpenSpec.ofChange fnExactOrderInSpec)) fnExactOrderInCard

/-- THE TIED CARD OF 'laws.FnExactLimitOrder'. -/
def fnExactLimitOrderCard : Claim7 := { stood := { row := fnExactLimitOrderRow, standIns := [], harness := (true, "83b4f0ddff6e0be8e1a3f18a5d9e81adb2ff02da0aa5180331f33694692605af"), looks := true }, kinds := [], alts := [], laidByText := true, laidKinds := [.data], laidTests := true, laidLooks := .later }
def FnExactLimitOrderCardSaid : Prop := Claim7.holds Tryd.pinned (.plain (OpenSpec.ofChange fnExactLimitOrderSpec)) fnExactLimitOrderCard

/-- THE TIED CARD OF 'laws.FnExactPointsHold'. -/
def fnExactPointsHoldCard : Claim7 := { stood := { row := fnExactPointsHoldRow, standIns := [], harness := (true, "83b4f0ddff6e0be8e1a3f18a5d9e81adb2ff02da0aa5180331f33694692605af"), looks := true }, kinds := [], alts := [], laidByText := true, laidKinds := [.data], laidTests := true, laidLooks := .later }
def FnExactPointsHoldCardSaid : Prop := Claim7.holds Tryd.pinned (.plain (OpenSpec.ofChange fnExactPointsHoldSpec)) fnExactPointsHoldCard

/-- THE TIED CARD OF 'laws.FnExactPointableNet'. -/
def fnExactPointableNetCard : Claim7 := { stood := { row := fnExactPointableNetRow, standIns := [], harness := (true, "83b4f0ddff6e0be8e1a3f18a5d9e81adb2ff02da0aa5180331f33694692605af"), looks := true }, kinds := [], alts := [], laidByText := true, laidKinds := [.data], laidTests := true, laidLooks := .later }
def FnExactPointableNetCardSaid : Prop := Claim7.holds Tryd.pinned (.plain (OpenSpec.ofChange fnExactPointableNetSpec)) fnExactPointableNetCard

/-- THE TIED CARD OF 'laws.FnExactEndsNet'. -/
def fnExactEndsNetCard : Claim7 := { stood := { row := fnExactEndsNetRow, standIns := [], harness := (true, "83b4f0ddff6e0be8e1a3f18a5d9e81adb2ff02da0aa5180331f33694692605af"), looks := true }, kinds := [], alts := [], laidByText := true, laidKinds := [.data, .data], laidTests := true, laidLooks := .later }
def FnExactEndsNetCardSaid : Prop := Claim7.holds Tryd.pinned (.plain (OpenSpec.ofChange fnExactEndsNetSpec)) fnExactEndsNetCard

/-- THE TIED CARD OF 'laws.FnExactNetOfEnds'. -/
def fnExactNetOfEndsCard : Claim7 := { stood := { row := fnExactNetOfEndsRow, standIns := [], harness := (true, "83b4f0ddff6e0be8e1a3f18a5d9e81adb2ff02da0aa5180331f33694692605af"), looks := true }, kinds := [], alts := [], laidByText := true, laidKinds := [.data, .data], laidTests := true, laidLooks := .later }
def FnExactNetOfEndsCardSaid : Prop := Claim7.holds Tryd.pinned (.plain (OpenSpec.ofChange fnExactNetOfEndsSpec)) fnExactNetOfEndsCard

/-- THE TIED CARD OF 'laws.FnExactClosePoints'. -/
def fnExactClosePointsCard : Claim7 := { stood := { row := fnExactClosePointsRow, standIns := [], harness := (true, "83b4f0ddff6e0be8e1a3f18a5d9e81adb2ff02da0aa5180331f33694692605af"), looks := true }, kinds := [], alts := [], laidByText := true, laidKinds := [.data], laidTests := true, laidLooks := .later }
def FnExactClosePointsCardSaid : Prop := Claim7.holds Tryd.pinned (.plain (OpenSpec.ofChange fnExactClosePointsSpec)) fnExactClosePointsCard

/-- THE TIED CARD OF 'laws.FnExactPointsConsistent'. -/
def fnExactPointsConsistentCard : Claim7 := { stood := { row := fnExactPointsConsistentRow, standIns := [], harness := (true, "83b4f0ddff6e0be8e1a3f18a5d9e81adb2ff02da0aa5180331f33694692605af"), looks := true }, kinds := [], alts := [], laidByText := true, laidKinds := [.data], laidTests := true, laidLooks := .later }
def FnExactPointsConsistentCardSaid : Prop := Claim7.holds Tryd.pinned (.plain (OpenSpec.ofChange fnExactPointsConsistentSpec)) fnExactPointsConsistentCard

/-- THE TIED CARD OF 'laws.FnExactFirstPoints'. -/
def fnExactFirstPointsCard : Claim7 := { stood := { row := fnExactFirstPointsRow, standIns := [], harness := (true, "83b4f0ddff6e0be8e1a3f18a5d9e81adb2ff02da0aa5180331f33694692605af"), looks := true }, kinds := [], alts := [], laidByText := true, laidKinds := [.data], laidTests := true, laidLooks := .later }
def FnExactFirstPointsCardSaid : Prop := Claim7.holds Tryd.pinned (.plain (OpenSpec.ofChange fnExactFirstPointsSpec)) fnExactFirstPointsCard

/-- THE TIED CARD OF 'laws.FnExactFormatPointNet'. -/
def fnExactFormatPointNetCard : Claim7 := { stood := { row := fnExactFormatPointNetRow, standIns := [], harness := (true, "83b4f0ddff6e0be8e1a3f18a5d9e81adb2ff02da0aa5180331f33694692605af"), looks := true }, kinds := [], alts := [], laidByText := true, laidKinds := [.data, .data, .data, .data], laidTests := true, laidLooks := .later }
def FnExactFormatPointNetCardSaid : Prop := Claim7.holds Tryd.pinned (.plain (OpenSpec.ofChange fnExactFormatPointNetSpec)) fnExactFormatPointNetCard

/-- THE TIED CARD OF 'laws.FnExactParsePointNet'. -/
def fnExactParsePointNetCard : Claim7 := { stood := { row := fnExactParsePointNetRow, standIns := [], harness := (true, "83b4f0ddff6e0be8e1a3f18a5d9e81adb2ff02da0aa5180331f33694692605af"), looks := true }, kinds := [], alts := [], laidByText := true, laidKinds := [.data, .data, .data, .data, .sentinel, .sentinel, .data, .pinned], laidTests := true, laidLooks := .later }
def FnExactParsePointNetCardSaid : Prop := Claim7.holds Tryd.pinned (.plain (OpenSpec.ofChange fnExactParsePointNetSpec)) fnExactParsePointNetCard

/-- THE SECOND FORM's CARD OF 'laws.FnExactPointNetValid'. -/
def fnExactPointNetValidUptoCard : Claim7 := { stood := { row := fnExactPointNetValidUptoRow, standIns := [], harness := (true, "83b4f0ddff6e0be8e1a3f18a5d9e81adb2ff02da0aa5180331f33694692605af"), looks := true }, kinds := [], alts := [], laidByText := true, laidKinds := [.data], laidTests := true, laidLooks := .later }
def FnExactPointNetValidUptoCardSaid : Prop := Claim7.holds Tryd.pinned (.plain (OpenSpec.upto fnExactPointNetValidSpec)) fnExactPointNetValidUptoCard

/-- THE SECOND FORM's CARD OF 'laws.FnExactOrderIn'. -/
def fnExactOrderInUptoCard : Claim7 := { stood := { row := fnExactOrderInUptoRow, standIns := [], harness := (true, "83b4f0ddff6e0be8e1a3f18a5d9e81adb2ff02da0aa5180331f33694692605af"), looks := true }, kinds := [], alts := [], laidByText := true, laidKinds := [.data], laidTests := true, laidLooks := .later }
def FnExactOrderInUptoCardSaid : Prop := Claim7.holds Tryd.pinned (.plain (OpenSpec.upto fnExactOrderInSpec)) fnExactOrderInUptoCard

/-- THE SECOND FORM's CARD OF 'laws.FnExactLimitOrder'. -/
def fnExactLimitOrderUptoCard : Claim7 := { stood := { row := fnExactLimitOrderUptoRow, standIns := [], harness := (true, "83b4f0ddff6e0be8e1a3f18a5d9e81adb2ff02da0aa5180331f33694692605af"), looks := true }, kinds := [], alts := [], laidByText := true, laidKinds := [.data], laidTests := true, laidLooks := .later }
def FnExactLimitOrderUptoCardSaid : Prop := Claim7.holds Tryd.pinned (.plain (OpenSpec.upto fnExactLimitOrderSpec)) fnExactLimitOrderUptoCard

/-- THE SECOND FORM's CARD OF 'laws.FnExactPointsHold'. -/
def fnExactPointsHoldUptoCard : Claim7 := { stood := { row := fnExactPointsHoldUptoRow, standIns := [], harness := (true, "83b4f0ddff6e0be8e1a3f18a5d9e81adb2ff02da0aa5180331f33694692605af"), looks := true }, kinds := [], alts := [], laidByText := true, laidKinds := [.data], laidTests := true, laidLooks := .later }
def FnExactPointsHoldUptoCardSaid : Prop := Claim7.holds Tryd.pinned (.plain (OpenSpec.upto fnExactPointsHoldSpec)) fnExactPointsHoldUptoCard

/-- THE SECOND FORM's CARD OF 'laws.FnExactPointableNet'. -/
def fnExactPointableNetUptoCard : Claim7 := { stood := { row := fnExactPointableNetUptoRow, standIns := [], harness := (true, "83b4f0ddff6e0be8e1a3f18a5d9e81adb2ff02da0aa5180331f33694692605af"), looks := true }, kinds := [], alts := [], laidByText := true, laidKinds := [.data], laidTests := true, laidLooks := .later }
def FnExactPointableNetUptoCardSaid : Prop := Claim7.holds Tryd.pinned (.plain (OpenSpec.upto fnExactPointableNetSpec)) fnExactPointableNetUptoCard

/-- THE SECOND FORM's CARD OF 'laws.FnExactEndsNet'. -/
def fnExactEndsNetUptoCard : Claim7 := { stood := { row := fnExactEndsNetUptoRow, standIns := [], harness := (true, "83b4f0ddff6e0be8e1a3f18a5d9e81adb2ff02da0aa5180331f33694692605af"), looks := true }, kinds := [], alts := [], laidByText := true, laidKinds := [.data, .data], laidTests := true, laidLooks := .later }
def FnExactEndsNetUptoCardSaid : Prop := Claim7.holds Tryd.pinned (.plain (OpenSpec.upto fnExactEndsNetSpec)) fnExactEndsNetUptoCard

/-- THE SECOND FORM's CARD OF 'laws.FnExactNetOfEnds'. -/
def fnExactNetOfEndsUptoCard : Claim7 := { stood := { row := fnExactNetOfEndsUptoRow, standIns := [], harness := (true, "83b4f0ddff6e0be8e1a3f18a5d9e81adb2ff02da0aa5180331f33694692605af"), looks := true }, kinds := [], alts := [], laidByText := true, laidKinds := [.data, .data], laidTests := true, laidLooks := .later }
def FnExactNetOfEndsUptoCardSaid : Prop := Claim7.holds Tryd.pinned (.plain (OpenSpec.upto fnExactNetOfEndsSpec)) fnExactNetOfEndsUptoCard

/-- THE SECOND FORM's CARD OF 'laws.FnExactClosePoints'. -/
def fnExactClosePointsUptoCard : Claim7 := { stood := { row := fnExactClosePointsUptoRow, standIns := [], harness := (true, "83b4f0ddff6e0be8e1a3f18a5d9e81adb2ff02da0aa5180331f33694692605af"), looks := true }, kinds := [], alts := [], laidByText := true, laidKinds := [.data], laidTests := true, laidLooks := .later }
def FnExactClosePointsUptoCardSaid : Prop := Claim7.holds Tryd.pinned (.plain (OpenSpec.upto fnExactClosePointsSpec)) fnExactClosePointsUptoCard

/-- THE SECOND FORM's CARD OF 'laws.FnExactPointsConsistent'. -/
def fnExactPointsConsistentUptoCard : Claim7 := { stood := { row := fnExactPointsConsistentUptoRow, standIns := [], harness := (true, "83b4f0ddff6e0be8e1a3f18a5d9e81adb2ff02da0aa5180331f33694692605af"), looks := true }, kinds := [], alts := [], laidByText := true, laidKinds := [.data], laidTests := true, laidLooks := .later }
def FnExactPointsConsistentUptoCardSaid : Prop := Claim7.holds Tryd.pinned (.plain (OpenSpec.upto fnExactPointsConsistentSpec)) fnExactPointsConsistentUptoCard

/-- THE SECOND FORM's CARD OF 'laws.FnExactFirstPoints'. -/
def fnExactFirstPointsUptoCard : Claim7 := { stood := { row := fnExactFirstPointsUptoRow, standIns := [], harness := (true, "83b4f0ddff6e0be8e1a3f18a5d9e81adb2ff02da0aa5180331f33694692605af"), looks := true }, kinds := [], alts := [], laidByText := true, laidKinds := [.data], laidTests := true, laidLooks := .later }
def FnExactFirstPointsUptoCardSaid : Prop := Claim7.holds Tryd.pinned (.plain (OpenSpec.upto fnExactFirstPointsSpec)) fnExactFirstPointsUptoCard

/-- THE SECOND FORM's CARD OF 'laws.FnExactFormatPointNet'. -/
def fnExactFormatPointNetUptoCard : Claim7 := { stood := { row := fnExactFormatPointNetUptoRow, standIns := [], harness := (true, "83b4f0ddff6e0be8e1a3f18a5d9e81adb2ff02da0aa5180331f33694692605af"), looks := true }, kinds := [], alts := [], laidByText := true, laidKinds := [.data, .data, .data, .data], laidTests := true, laidLooks := .later }
def FnExactFormatPointNetUptoCardSaid : Prop := Claim7.holds Tryd.pinned (.plain (OpenSpec.upto fnExactFormatPointNetSpec)) fnExactFormatPointNetUptoCard

/-- THE SECOND FORM's CARD OF 'laws.FnExactParsePointNet'. -/
def fnExactParsePointNetUptoCard : Claim7 := { stood := { row := fnExactParsePointNetUptoRow, standIns := [], harness := (true, "83b4f0ddff6e0be8e1a3f18a5d9e81adb2ff02da0aa5180331f33694692605af"), looks := true }, kinds := [], alts := [], laidByText := true, laidKinds := [.data, .data, .data, .data, .sentinel, .sentinel, .data, .pinned], laidTests := true, laidLooks := .later }
def FnExactParsePointNetUptoCardSaid : Prop := Claim7.holds Tryd.pinned (.plain (OpenSpec.upto fnExactParsePointNetSpec)) fnExactParsePointNetUptoCard
end Rows
end Go.Proofs.YtmdgkhebefnfeaaDoor
