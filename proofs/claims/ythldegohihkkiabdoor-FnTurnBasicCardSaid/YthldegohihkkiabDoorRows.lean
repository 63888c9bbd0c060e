/-
  NARROWER THAN 'FOR EVERY INPUT', by the rows' own cells (each row's printed sentence says how): FnRelText: laid · FnRelHolds: laid · FnTurnRel: laid · FnComposeBasic: laid · FnComposeRel: laid · FnResidual: laid · FnNamed: laid · FnTurnBasic: laid · FnBasicOf: laid · FnMeetOf: laid · FnIntervalText: laid.
  DERIVED. THE GIVEN ROWS OF THIS SEAT. 11 by the template 'for every input the law returns true; each argument reads behind the call as it read before'; 0 by the template 'total and deterministic' (their statements: YthldegohihkkiabDoorTotals.lean).
  GIVEN WITH THE SEED: the statements are not yours to turn. If you find one false, say at which input.
  Laid BY PROGRAM, IN A SANDBOX (cutbox-rows.mjs): the forced cells as the released guide's own fill.sh prints them over the translation cf45affb8c3d7461… (all of the seat's roots in one cut). By AI agents, Wed Nov 11 2026. No macro, syntax, notation, axiom, sorry.
-/
import Derived.Test.YthldegohihkkiabDoorChecked
import GoSem.Claim
import GoSem.ClaimJoined
import GoSem.ClaimMapViews
import Derived.JoinedTies
import Derived.KernelRfl
namespace Go.Proofs.YthldegohihkkiabDoor
/- THE CELL 'sum', in the pinned program and in every row, IS THE sha256 OF THE DUMP (.gsa) THAT YthldegohihkkiabDoorProg.lean LOADS. Nothing in Lean hashes anything: it is a label: what it is worth is what the hold of that sum in a sandbox is worth. -/
noncomputable def Tryd.pinned : Pinned := { name := "ythldegohihkkiabdoor", sum := "cf45affb8c3d7461ae5212199d732b553fc3283e40af21952b6df5a3c32e451d", checked := Tryd.checked }
namespace Rows
def none {H : Type} : Left H := { results := [], args := [] }

/- WHAT THE LISTED PACKAGE-LEVEL VARIABLES READ AS WHEN THE CALL BEGINS. Each datum BY PROGRAM (the guide's laid-datum.mjs) off the statement by which the dump's own 'gosem.cut.vars' lays the variable. In a bare row this is a premise. The card (YthldegohihkkiabDoorCards.lean) ties it to the program's text. -/
def laid_loop_example_intervalsandplaces_impl_basicTable {H : Type} : DataW H := .agg [.agg [.lit (.string [98]), .lit (.int .i64 0), .lit (.int .i64 0)], .agg [.lit (.string [109]), .lit (.int .i64 0), .lit (.int .i64 1)], .agg [.lit (.string [111]), .lit (.int .i64 0), .lit (.int .i64 2)], .agg [.lit (.string [115]), .lit (.int .i64 1), .lit (.int .i64 2)], .agg [.lit (.string [100]), .lit (.int .i64 2), .lit (.int .i64 2)], .agg [.lit (.string [102]), .lit (.int .i64 2), .lit (.int .i64 3)], .agg [.lit (.string [101]), .lit (.int .i64 1), .lit (.int .i64 3)], .agg [.lit (.string [70]), .lit (.int .i64 0), .lit (.int .i64 3)], .agg [.lit (.string [68]), .lit (.int .i64 0), .lit (.int .i64 4)], .agg [.lit (.string [83]), .lit (.int .i64 1), .lit (.int .i64 4)], .agg [.lit (.string [79]), .lit (.int .i64 2), .lit (.int .i64 4)], .agg [.lit (.string [77]), .lit (.int .i64 3), .lit (.int .i64 4)], .agg [.lit (.string [66]), .lit (.int .i64 4), .lit (.int .i64 4)]]
def laid_loop_example_intervalsandplaces_impl_namedTable {H : Type} : DataW H := .agg [.agg [.lit (.string [97, 108, 108]), .lit (.string [98, 109, 111, 115, 100, 102, 101, 70, 68, 83, 79, 77, 66])], .agg [.lit (.string [110, 111, 110, 101]), .lit (.string [45])], .agg [.lit (.string [97, 112, 97, 114, 116]), .lit (.string [98, 109, 77, 66])], .agg [.lit (.string [99, 111, 109, 109, 111, 110]), .lit (.string [111, 115, 100, 102, 101, 70, 68, 83, 79])], .agg [.lit (.string [119, 105, 116, 104, 105, 110]), .lit (.string [115, 100, 102, 101])], .agg [.lit (.string [98, 101, 103, 105, 110, 115]), .lit (.string [115, 101, 83])], .agg [.lit (.string [101, 110, 100, 115]), .lit (.string [102, 101, 70])], .agg [.lit (.string [101, 97, 114, 108, 105, 101, 114]), .lit (.string [98, 109, 111, 70, 68])]]
def laid_loop_example_intervalsandplaces_impl_everyOrder {H : Type} : DataW H := .agg [.lit (.int .i64 1), .lit (.int .i64 2), .lit (.int .i64 4)]
def laid_math_bits_deBruijn32tab {H : Type} : DataW H := .agg [.lit (.int .u8 0), .lit (.int .u8 1), .lit (.int .u8 28), .lit (.int .u8 2), .lit (.int .u8 29), .lit (.int .u8 14), .lit (.int .u8 24), .lit (.int .u8 3), .lit (.int .u8 30), .lit (.int .u8 22), .lit (.int .u8 20), .lit (.int .u8 15), .lit (.int .u8 25), .lit (.int .u8 17), .lit (.int .u8 4), .lit (.int .u8 8), .lit (.int .u8 31), .lit (.int .u8 27), .lit (.int .u8 13), .lit (.int .u8 23), .lit (.int .u8 21), .lit (.int .u8 19), .lit (.int .u8 16), .lit (.int .u8 7), .lit (.int .u8 26), .lit (.int .u8 12), .lit (.int .u8 18), .lit (.int .u8 6), .lit (.int .u8 11), .lit (.int .u8 5), .lit (.int .u8 10), .lit (.int .u8 9)]
def laid_math_bits_deBruijn64tab {H : Type} : DataW H := .agg [.lit (.int .u8 0), .lit (.int .u8 1), .lit (.int .u8 56), .lit (.int .u8 2), .lit (.int .u8 57), .lit (.int .u8 49), .lit (.int .u8 28), .lit (.int .u8 3), .lit (.int .u8 61), .lit (.int .u8 58), .lit (.int .u8 42), .lit (.int .u8 50), .lit (.int .u8 38), .lit (.int .u8 29), .lit (.int .u8 17), .lit (.int .u8 4), .lit (.int .u8 62), .lit (.int .u8 47), .lit (.int .u8 59), .lit (.int .u8 36), .lit (.int .u8 45), .lit (.int .u8 43), .lit (.int .u8 51), .lit (.int .u8 22), .lit (.int .u8 53), .lit (.int .u8 39), .lit (.int .u8 33), .lit (.int .u8 30), .lit (.int .u8 24), .lit (.int .u8 18), .lit (.int .u8 12), .lit (.int .u8 5), .lit (.int .u8 63), .lit (.int .u8 55), .lit (.int .u8 48), .lit (.int .u8 27), .lit (.int .u8 60), .lit (.int .u8 41), .lit (.int .u8 37), .lit (.int .u8 16), .lit (.int .u8 46), .lit (.int .u8 35), .lit (.int .u8 44), .lit (.int .u8 21), .lit (.int .u8 52), .lit (.int .u8 32), .lit (.int .u8 23), .lit (.int .u8 11), .lit (.int .u8 54), .lit (.int .u8 26), .lit (.int .u8 40), .lit (.int .u8 15), .lit (.int .u8 34), .lit (.int .u8 20), .lit (.int .u8 31), .lit (.int .u8 10), .lit (.int .u8 25), .lit (.int .u8 14), .lit (.int .u8 19), .lit (.int .u8 9), .lit (.int .u8 13), .lit (.int .u8 8), .lit (.int .u8 7), .lit (.int .u8 6)]
def laid_internal_strconv_uint64pow10 {H : Type} : DataW H := .agg [.lit (.int .u64 1), .lit (.int .u64 10), .lit (.int .u64 100), .lit (.int .u64 1000), .lit (.int .u64 10000), .lit (.int .u64 100000), .lit (.int .u64 1000000), .lit (.int .u64 10000000), .lit (.int .u64 100000000), .lit (.int .u64 1000000000), .lit (.int .u64 10000000000), .lit (.int .u64 100000000000), .lit (.int .u64 1000000000000), .lit (.int .u64 10000000000000), .lit (.int .u64 100000000000000), .lit (.int .u64 1000000000000000), .lit (.int .u64 10000000000000000), .lit (.int .u64 100000000000000000), .lit (.int .u64 1000000000000000000), .lit (.int .u64 10000000000000000000)]
def laid_strconv_ErrRange {H : Type} : DataW H := .iface "*errors.errorString" (.ptr (.agg [.lit (.string [118, 97, 108, 117, 101, 32, 111, 117, 116, 32, 111, 102, 32, 114, 97, 110, 103, 101])]))
def laid_strconv_ErrSyntax {H : Type} : DataW H := .iface "*errors.errorString" (.ptr (.agg [.lit (.string [105, 110, 118, 97, 108, 105, 100, 32, 115, 121, 110, 116, 97, 120])]))

/-- 'laws.FnRelText': WHATEVER THE INPUT: true; the input reads as it did. -/
def fnRelTextSpec : ChangeSpec := { name := "fnRelText", vars := ["loop.example/intervalsandplaces/impl.basicTable"], fn := fun _ => fun
  | [d1, d2, g1] => { results := [.lit (.bool true)], args := [d1, d2], vars := [g1] }
  | _ => none }
def fnRelTextRow : OpenClaim := { program := "ythldegohihkkiabdoor", sum := "cf45affb8c3d7461ae5212199d732b553fc3283e40af21952b6df5a3c32e451d", func := "loop.example/intervalsandplaces/laws.FnRelText", spec := "fnRelText", inPlace := ["internal/abi.NoEscape"], unfollowed := true, recurses := true, named := ["loop.example/intervalsandplaces/impl.basicTable"], apart := false, laid := [("loop.example/intervalsandplaces/impl.basicTable", laid_loop_example_intervalsandplaces_impl_basicTable)] }
def FnRelTextSaid : Prop := fnRelTextRow.holds Tryd.pinned (OpenSpec.ofChange fnRelTextSpec)

/-- ITS FALSE NEIGHBOUR: 'it returns false'. Refute it at one input. -/
def fnRelTextWrong : ChangeSpec := { name := "fnRelText", vars := ["loop.example/intervalsandplaces/impl.basicTable"], fn := fun _ => fun
  | [d1, d2, g1] => { results := [.lit (.bool false)], args := [d1, d2], vars := [g1] }
  | _ => none }
def FnRelTextWrongFalsely : Prop := fnRelTextRow.holds Tryd.pinned (OpenSpec.ofChange fnRelTextWrong)

/-- 'laws.FnRelHolds': WHATEVER THE INPUT: true; the input reads as it did. -/
def fnRelHoldsSpec : ChangeSpec := { name := "fnRelHolds", vars := ["loop.example/intervalsandplaces/impl.basicTable"], fn := fun _ => fun
  | [d, g1] => { results := [.lit (.bool true)], args := [d], vars := [g1] }
  | _ => none }
def fnRelHoldsRow : OpenClaim := { program := "ythldegohihkkiabdoor", sum := "cf45affb8c3d7461ae5212199d732b553fc3283e40af21952b6df5a3c32e451d", func := "loop.example/intervalsandplaces/laws.FnRelHolds", spec := "fnRelHolds", inPlace := ["internal/abi.NoEscape"], unfollowed := true, recurses := true, named := ["loop.example/intervalsandplaces/impl.basicTable"], apart := false, laid := [("loop.example/intervalsandplaces/impl.basicTable", laid_loop_example_intervalsandplaces_impl_basicTable)] }
def FnRelHoldsSaid : Prop := fnRelHoldsRow.holds Tryd.pinned (OpenSpec.ofChange fnRelHoldsSpec)

/-- ITS FALSE NEIGHBOUR: 'it returns false'. Refute it at one input. -/
def fnRelHoldsWrong : ChangeSpec := { name := "fnRelHolds", vars := ["loop.example/intervalsandplaces/impl.basicTable"], fn := fun _ => fun
  | [d, g1] => { results := [.lit (.bool false)], args := [d], vars := [g1] }
  | _ => none }
def FnRelHoldsWrongFalsely : Prop := fnRelHoldsRow.holds Tryd.pinned (OpenSpec.ofChange fnRelHoldsWrong)

/-- 'laws.FnTurnRel': WHATEVER THE INPUT: true; the input reads as it did. -/
def fnTurnRelSpec : ChangeSpec := { name := "fnTurnRel", vars := ["loop.example/intervalsandplaces/impl.basicTable"], fn := fun _ => fun
  | [d, g1] => { results := [.lit (.bool true)], args := [d], vars := [g1] }
  | _ => none }
def fnTurnRelRow : OpenClaim := { program := "ythldegohihkkiabdoor", sum := "cf45affb8c3d7461ae5212199d732b553fc3283e40af21952b6df5a3c32e451d", func := "loop.example/intervalsandplaces/laws.FnTurnRel", spec := "fnTurnRel", unfollowed := true, recurses := true, named := ["loop.example/intervalsandplaces/impl.basicTable"], apart := false, laid := [("loop.example/intervalsandplaces/impl.basicTable", laid_loop_example_intervalsandplaces_impl_basicTable)] }
def FnTurnRelSaid : Prop := fnTurnRelRow.holds Tryd.pinned (OpenSpec.ofChange fnTurnRelSpec)

/-- ITS FALSE NEIGHBOUR: 'it returns false'. Refute it at one input. -/
def fnTurnRelWrong : ChangeSpec := { name := "fnTurnRel", vars := ["loop.example/intervalsandplaces/impl.basicTable"], fn := fun _ => fun
  | [d, g1] => { results := [.lit (.bool false)], args := [d], vars := [g1] }
  | _ => none }
def FnTurnRelWrongFalsely : Prop := fnTurnRelRow.holds Tryd.pinned (OpenSpec.ofChange fnTurnRelWrong)

/-- 'laws.FnComposeBasic': WHATEVER THE INPUT: true; the input reads as it did. -/
def fnComposeBasicSpec : ChangeSpec := { name := "fnComposeBasic", vars := ["loop.example/intervalsandplaces/impl.basicTable"], fn := fun _ => fun
  | [d1, d2, g1] => { results := [.lit (.bool true)], args := [d1, d2], vars := [g1] }
  | _ => none }
def fnComposeBasicRow : OpenClaim := { program := "ythldegohihkkiabdoor", sum := "cf45affb8c3d7461ae5212199d732b553fc3283e40af21952b6df5a3c32e451d", func := "loop.example/intervalsandplaces/laws.FnComposeBasic", spec := "fnComposeBasic", inPlace := ["internal/abi.NoEscape"], unfollowed := true, recurses := true, named := ["loop.example/intervalsandplaces/impl.basicTable"], apart := false, laid := [("loop.example/intervalsandplaces/impl.basicTable", laid_loop_example_intervalsandplaces_impl_basicTable)] }
def FnComposeBasicSaid : Prop := fnComposeBasicRow.holds Tryd.pinned (OpenSpec.ofChange fnComposeBasicSpec)

/-- ITS FALSE NEIGHBOUR: 'it returns false'. Refute it at one input. -/
def fnComposeBasicWrong : ChangeSpec := { name := "fnComposeBasic", vars := ["loop.example/intervalsandplaces/impl.basicTable"], fn := fun _ => fun
  | [d1, d2, g1] => { results := [.lit (.bool false)], args := [d1, d2], vars := [g1] }
  | _ => none }
def FnComposeBasicWrongFalsely : Prop := fnComposeBasicRow.holds Tryd.pinned (OpenSpec.ofChange fnComposeBasicWrong)

/-- 'laws.FnComposeRel': WHATEVER THE INPUT: true; the input reads as it did. -/
def fnComposeRelSpec : ChangeSpec := { name := "fnComposeRel", vars := ["loop.example/intervalsandplaces/impl.basicTable"], fn := fun _ => fun
  | [d1, d2, g1] => { results := [.lit (.bool true)], args := [d1, d2], vars := [g1] }
  | _ => none }
def fnComposeRelRow : OpenClaim := { program := "ythldegohihkkiabdoor", sum := "cf45affb8c3d7461ae5212199d732b553fc3283e40af21952b6df5a3c32e451d", func := "loop.example/intervalsandplaces/laws.FnComposeRel", spec := "fnComposeRel", inPlace := ["internal/abi.NoEscape"], unfollowed := true, recurses := true, named := ["loop.example/intervalsandplaces/impl.basicTable"], apart := false, laid := [("loop.example/intervalsandplaces/impl.basicTable", laid_loop_example_intervalsandplaces_impl_basicTable)] }
def FnComposeRelSaid : Prop := fnComposeRelRow.holds Tryd.pinned (OpenSpec.ofChange fnComposeRelSpec)

/-- ITS FALSE NEIGHBOUR: 'it returns false'. Refute it at one input. -/
def fnComposeRelWrong : ChangeSpec := { name := "fnComposeRel", vars := ["loop.example/intervalsandplaces/impl.basicTable"], fn := fun _ => fun
  | [d1, d2, g1] => { results := [.lit (.bool false)], args := [d1, d2], vars := [g1] }
  | _ => none }
def FnComposeRelWrongFalsely : Prop := fnComposeRelRow.holds Tryd.pinned (OpenSpec.ofChange fnComposeRelWrong)

/-- 'laws.FnResidual': WHATEVER THE INPUT: true; the input reads as it did. -/
def fnResidualSpec : ChangeSpec := { name := "fnResidual", vars := ["loop.example/intervalsandplaces/impl.basicTable"], fn := fun _ => fun
  | [d1, d2, g1] => { results := [.lit (.bool true)], args := [d1, d2], vars := [g1] }
  | _ => none }
def fnResidualRow : OpenClaim := { program := "ythldegohihkkiabdoor", sum := "cf45affb8c3d7461ae5212199d732b553fc3283e40af21952b6df5a3c32e451d", func := "loop.example/intervalsandplaces/laws.FnResidual", spec := "fnResidual", unfollowed := true, recurses := true, named := ["loop.example/intervalsandplaces/impl.basicTable"], apart := false, laid := [("loop.example/intervalsandplaces/impl.basicTable", laid_loop_example_intervalsandplaces_impl_basicTable)] }
def FnResidualSaid : Prop := fnResidualRow.holds Tryd.pinned (OpenSpec.ofChange fnResidualSpec)

/-- ITS FALSE NEIGHBOUR: 'it returns false'. Refute it at one input. -/
def fnResidualWrong : ChangeSpec := { name := "fnResidual", vars := ["loop.example/intervalsandplaces/impl.basicTable"], fn := fun _ => fun
  | [d1, d2, g1] => { results := [.lit (.bool false)], args := [d1, d2], vars := [g1] }
  | _ => none }
def FnResidualWrongFalsely : Prop := fnResidualRow.holds Tryd.pinned (OpenSpec.ofChange fnResidualWrong)

/-- 'laws.FnNamed': WHATEVER THE INPUT: true; the input reads as it did. -/
def fnNamedSpec : ChangeSpec := { name := "fnNamed", vars := ["loop.example/intervalsandplaces/impl.namedTable", "loop.example/intervalsandplaces/impl.basicTable"], fn := fun _ => fun
  | [d1, d2, g1, g2] => { results := [.lit (.bool true)], args := [d1, d2], vars := [g1, g2] }
  | _ => none }
def fnNamedRow : OpenClaim := { program := "ythldegohihkkiabdoor", sum := "cf45affb8c3d7461ae5212199d732b553fc3283e40af21952b6df5a3c32e451d", func := "loop.example/intervalsandplaces/laws.FnNamed", spec := "fnNamed", inPlace := ["internal/abi.NoEscape"], unfollowed := true, recurses := true, named := ["loop.example/intervalsandplaces/impl.namedTable", "loop.example/intervalsandplaces/impl.basicTable"], apart := false, laid := [("loop.example/intervalsandplaces/impl.basicTable", laid_loop_example_intervalsandplaces_impl_basicTable), ("loop.example/intervalsandplaces/impl.namedTable", laid_loop_example_intervalsandplaces_impl_namedTable)] }
def FnNamedSaid : Prop := fnNamedRow.holds Tryd.pinned (OpenSpec.ofChange fnNamedSpec)

/-- ITS FALSE NEIGHBOUR: 'it returns false'. Refute it at one input. -/
def fnNamedWrong : ChangeSpec := { name := "fnNamed", vars := ["loop.example/intervalsandplaces/impl.namedTable", "loop.example/intervalsandplaces/impl.basicTable"], fn := fun _ => fun
  | [d1, d2, g1, g2] => { results := [.lit (.bool false)], args := [d1, d2], vars := [g1, g2] }
  | _ => none }
def FnNamedWrongFalsely : Prop := fnNamedRow.holds Tryd.pinned (OpenSpec.ofChange fnNamedWrong)

/-- 'laws.FnTurnBasic': WHATEVER THE INPUT: true; the input reads as it did. -/
def fnTurnBasicSpec : ChangeSpec := { name := "fnTurnBasic", vars := ["loop.example/intervalsandplaces/impl.basicTable", "loop.example/intervalsandplaces/impl.everyOrder"], fn := fun _ => fun
  | [d, g1, g2] => { results := [.lit (.bool true)], args := [d], vars := [g1, g2] }
  | _ => none }
def fnTurnBasicRow : OpenClaim := { program := "ythldegohihkkiabdoor", sum := "cf45affb8c3d7461ae5212199d732b553fc3283e40af21952b6df5a3c32e451d", func := "loop.example/intervalsandplaces/laws.FnTurnBasic", spec := "fnTurnBasic", unfollowed := true, recurses := true, named := ["loop.example/intervalsandplaces/impl.basicTable", "loop.example/intervalsandplaces/impl.everyOrder"], apart := false, laid := [("loop.example/intervalsandplaces/impl.everyOrder", laid_loop_example_intervalsandplaces_impl_everyOrder), ("loop.example/intervalsandplaces/impl.basicTable", laid_loop_example_intervalsandplaces_impl_basicTable)] }
def FnTurnBasicSaid : Prop := fnTurnBasicRow.holds Tryd.pinned (OpenSpec.ofChange fnTurnBasicSpec)

/-- ITS FALSE NEIGHBOUR: 'it returns false'. Refute it at one input. -/
def fnTurnBasicWrong : ChangeSpec := { name := "fnTurnBasic", vars := ["loop.example/intervalsandplaces/impl.basicTable", "loop.example/intervalsandplaces/impl.everyOrder"], fn := fun _ => fun
  | [d, g1, g2] => { results := [.lit (.bool false)], args := [d], vars := [g1, g2] }
  | _ => none }
def FnTurnBasicWrongFalsely : Prop := fnTurnBasicRow.holds Tryd.pinned (OpenSpec.ofChange fnTurnBasicWrong)

/-- 'laws.FnBasicOf': WHATEVER THE INPUT: true; the input reads as it did. -/
def fnBasicOfSpec : ChangeSpec := { name := "fnBasicOf", vars := ["loop.example/intervalsandplaces/impl.basicTable"], fn := fun _ => fun
  | [d, g1] => { results := [.lit (.bool true)], args := [d], vars := [g1] }
  | _ => none }
def fnBasicOfRow : OpenClaim := { program := "ythldegohihkkiabdoor", sum := "cf45affb8c3d7461ae5212199d732b553fc3283e40af21952b6df5a3c32e451d", func := "loop.example/intervalsandplaces/laws.FnBasicOf", spec := "fnBasicOf", unfollowed := true, recurses := true, named := ["loop.example/intervalsandplaces/impl.basicTable"], apart := false, laid := [("loop.example/intervalsandplaces/impl.basicTable", laid_loop_example_intervalsandplaces_impl_basicTable)] }
def FnBasicOfSaid : Prop := fnBasicOfRow.holds Tryd.pinned (OpenSpec.ofChange fnBasicOfSpec)

/-- ITS FALSE NEIGHBOUR: 'it returns false'. Refute it at one input. -/
def fnBasicOfWrong : ChangeSpec := { name := "fnBasicOf", vars := ["loop.example/intervalsandplaces/impl.basicTable"], fn := fun _ => fun
  | [d, g1] => { results := [.lit (.bool false)], args := [d], vars := [g1] }
  | _ => none }
def FnBasicOfWrongFalsely : Prop := fnBasicOfRow.holds Tryd.pinned (OpenSpec.ofChange fnBasicOfWrong)

/-- 'laws.FnMeetOf': WHATEVER THE INPUT: true; the input reads as it did. -/
def fnMeetOfSpec : ChangeSpec := { name := "fnMeetOf", vars := ["loop.example/intervalsandplaces/impl.basicTable"], fn := fun _ => fun
  | [d, g1] => { results := [.lit (.bool true)], args := [d], vars := [g1] }
  | _ => none }
def fnMeetOfRow : OpenClaim := { program := "ythldegohihkkiabdoor", sum := "cf45affb8c3d7461ae5212199d732b553fc3283e40af21952b6df5a3c32e451d", func := "loop.example/intervalsandplaces/laws.FnMeetOf", spec := "fnMeetOf", unfollowed := true, recurses := true, named := ["loop.example/intervalsandplaces/impl.basicTable"], apart := false, laid := [("loop.example/intervalsandplaces/impl.basicTable", laid_loop_example_intervalsandplaces_impl_basicTable)] }
def FnMeetOfSaid : Prop := fnMeetOfRow.holds Tryd.pinned (OpenSpec.ofChange fnMeetOfSpec)

/-- ITS FALSE NEIGHBOUR: 'it returns false'. Refute it at one input. -/
def fnMeetOfWrong : ChangeSpec := { name := "fnMeetOf", vars := ["loop.example/intervalsandplaces/impl.basicTable"], fn := fun _ => fun
  | [d, g1] => { results := [.lit (.bool false)], args := [d], vars := [g1] }
  | _ => none }
def FnMeetOfWrongFalsely : Prop := fnMeetOfRow.holds Tryd.pinned (OpenSpec.ofChange fnMeetOfWrong)

/-- 'laws.FnIntervalText': WHATEVER THE INPUT: true; the input reads as it did. -/
def fnIntervalTextSpec : ChangeSpec := { name := "fnIntervalText", fn := fun _ => fun
  | [d1, d2] => { results := [.lit (.bool true)], args := [d1, d2] }
  | _ => none }
def fnIntervalTextRow : OpenClaim := { program := "ythldegohihkkiabdoor", sum := "cf45affb8c3d7461ae5212199d732b553fc3283e40af21952b6df5a3c32e451d", func := "loop.example/intervalsandplaces/laws.FnIntervalText", spec := "fnIntervalText", inPlace := ["internal/bytealg.IndexByteString", "internal/bytealg.IndexString"], recurses := true, named := ["internal/strconv.uint64pow10", "math/bits.deBruijn32tab", "math/bits.deBruijn64tab", "internal/bytealg.MaxLen", "strconv.ErrSyntax", "strconv.ErrRange"], apart := false, laid := [("math/bits.deBruijn32tab", laid_math_bits_deBruijn32tab), ("math/bits.deBruijn64tab", laid_math_bits_deBruijn64tab), ("internal/strconv.uint64pow10", laid_internal_strconv_uint64pow10), ("strconv.ErrRange", laid_strconv_ErrRange), ("strconv.ErrSyntax", laid_strconv_ErrSyntax)] }
def FnIntervalTextSaid : Prop := fnIntervalTextRow.holds Tryd.pinned (OpenSpec.ofChange fnIntervalTextSpec)

/-- ITS FALSE NEIGHBOUR: 'it returns false'. Refute it at one input. -/
def fnIntervalTextWrong : ChangeSpec := { name := "fnIntervalText", fn := fun _ => fun
  | [d1, d2] => { results := [.lit (.bool false)], args := [d1, d2] }
  | _ => none }
def FnIntervalTextWrongFalsely : Prop := fnIntervalTextRow.holds Tryd.pinned (OpenSpec.ofChange fnIntervalTextWrong)

/- THE SECOND FORM. 'bulk': how many values and letters a reading holds, each counted each time it is reached (what is shared counts as often as it is met; a slice's spare places count too). A statement '..UptoSaid' is the law's where the arguments, and the package variables that the reading takes, are together of bulk at most 1048576: NARROWER than '..Said'. Prove '..Said' where nothing that the law and all that it calls make is longer than what came in: it says more and counts as full. Else prove '..UptoSaid'. A law counts once. -/
mutual
def uptoBulk {H : Type} : DataW H → Nat
  | .lit (.string bytes) => bytes.length + 1
  | .lit _ => 1
  | .nil => 1
  | .ptr d => uptoBulk d + 1
  | .slice elems spare => uptoBulkAll elems + uptoBulkAll spare + 1
  | .agg parts => uptoBulkAll parts + 1
  | .iface _ d => uptoBulk d + 1
  | .map entries => uptoBulkEntries entries + 1
  | .held _ => 1
def uptoBulkAll {H : Type} : List (DataW H) → Nat
  | [] => 0
  | d :: r => uptoBulk d + uptoBulkAll r
def uptoBulkEntries {H : Type} : List (Lit × DataW H) → Nat
  | [] => 0
  | x :: r => uptoBulkEntry x + uptoBulkEntries r
def uptoBulkEntry {H : Type} : Lit × DataW H → Nat
  | (.string bytes, d) => bytes.length + uptoBulk d + 1
  | (_, d) => uptoBulk d + 1
 end
def uptoSmall : (H : Type) → List (DataW H) → Bool := fun _ ds => decide (uptoBulkAll ds ≤ 1048576)
def OpenSpec.upto (s : _root_.Go.ChangeSpec) : _root_.Go.OpenSpec := { _root_.Go.OpenSpec.ofChange s with cond := some uptoSmall }

/-- 'laws.FnRelText', WHERE WHAT IT READS IS OF BULK AT MOST 1048576: true; the input reads as it did. -/
def fnRelTextUptoRow : OpenClaim := { program := "ythldegohihkkiabdoor", sum := "cf45affb8c3d7461ae5212199d732b553fc3283e40af21952b6df5a3c32e451d", func := "loop.example/intervalsandplaces/laws.FnRelText", spec := "fnRelText", inPlace := ["internal/abi.NoEscape"], unfollowed := true, recurses := true, named := ["loop.example/intervalsandplaces/impl.basicTable"], apart := false, laid := [("loop.example/intervalsandplaces/impl.basicTable", laid_loop_example_intervalsandplaces_impl_basicTable)], narrowed := true }
def FnRelTextUptoSaid : Prop := fnRelTextUptoRow.holds Tryd.pinned (OpenSpec.upto fnRelTextSpec)

/-- 'laws.FnRelHolds', WHERE WHAT IT READS IS OF BULK AT MOST 1048576: true; the input reads as it did. -/
def fnRelHoldsUptoRow : OpenClaim := { program := "ythldegohihkkiabdoor", sum := "cf45affb8c3d7461ae5212199d732b553fc3283e40af21952b6df5a3c32e451d", func := "loop.example/intervalsandplaces/laws.FnRelHolds", spec := "fnRelHolds", inPlace := ["internal/abi.NoEscape"], unfollowed := true, recurses := true, named := ["loop.example/intervalsandplaces/impl.basicTable"], apart := false, laid := [("loop.example/intervalsandplaces/impl.basicTable", laid_loop_example_intervalsandplaces_impl_basicTable)], narrowed := true }
def FnRelHoldsUptoSaid : Prop := fnRelHoldsUptoRow.holds Tryd.pinned (OpenSpec.upto fnRelHoldsSpec)

/-- 'laws.FnTurnRel', WHERE WHAT IT READS IS OF BULK AT MOST 1048576: true; the input reads as it did. -/
def fnTurnRelUptoRow : OpenClaim := { program := "ythldegohihkkiabdoor", sum := "cf45affb8c3d7461ae5212199d732b553fc3283e40af21952b6df5a3c32e451d", func := "loop.example/intervalsandplaces/laws.FnTurnRel", spec := "fnTurnRel", unfollowed := true, recurses := true, named := ["loop.example/intervalsandplaces/impl.basicTable"], apart := false, laid := [("loop.example/intervalsandplaces/impl.basicTable", laid_loop_example_intervalsandplaces_impl_basicTable)], narrowed := true }
def FnTurnRelUptoSaid : Prop := fnTurnRelUptoRow.holds Tryd.pinned (OpenSpec.upto fnTurnRelSpec)

/-- 'laws.FnComposeBasic', WHERE WHAT IT READS IS OF BULK AT MOST 1048576: true; the input reads as it did. -/
def fnComposeBasicUptoRow : OpenClaim := { program := "ythldegohihkkiabdoor", sum := "cf45affb8c3d7461ae5212199d732b553fc3283e40af21952b6df5a3c32e451d", func := "loop.example/intervalsandplaces/laws.FnComposeBasic", spec := "fnComposeBasic", inPlace := ["internal/abi.NoEscape"], unfollowed := true, recurses := true, named := ["loop.example/intervalsandplaces/impl.basicTable"], apart := false, laid := [("loop.example/intervalsandplaces/impl.basicTable", laid_loop_example_intervalsandplaces_impl_basicTable)], narrowed := true }
def FnComposeBasicUptoSaid : Prop := fnComposeBasicUptoRow.holds Tryd.pinned (OpenSpec.upto fnComposeBasicSpec)

/-- 'laws.FnComposeRel', WHERE WHAT IT READS IS OF BULK AT MOST 1048576: true; the input reads as it did. -/
def fnComposeRelUptoRow : OpenClaim := { program := "ythldegohihkkiabdoor", sum := "cf45affb8c3d7461ae5212199d732b553fc3283e40af21952b6df5a3c32e451d", func := "loop.example/intervalsandplaces/laws.FnComposeRel", spec := "fnComposeRel", inPlace := ["internal/abi.NoEscape"], unfollowed := true, recurses := true, named := ["loop.example/intervalsandplaces/impl.basicTable"], apart := false, laid := [("loop.example/intervalsandplaces/impl.basicTable", laid_loop_example_intervalsandplaces_impl_basicTable)], narrowed := true }
def FnComposeRelUptoSaid : Prop := fnComposeRelUptoRow.holds Tryd.pinned (OpenSpec.upto fnComposeRelSpec)

/-- 'laws.FnResidual', WHERE WHAT IT READS IS OF BULK AT MOST 1048576: true; the input reads as it did. -/
def fnResidualUptoRow : OpenClaim := { program := "ythldegohihkkiabdoor", sum := "cf45affb8c3d7461ae5212199d732b553fc3283e40af21952b6df5a3c32e451d", func := "loop.example/intervalsandplaces/laws.FnResidual", spec := "fnResidual", unfollowed := true, recurses := true, named := ["loop.example/intervalsandplaces/impl.basicTable"], apart := false, laid := [("loop.example/intervalsandplaces/impl.basicTable", laid_loop_example_intervalsandplaces_impl_basicTable)], narrowed := true }
def FnResidualUptoSaid : Prop := fnResidualUptoRow.holds Tryd.pinned (OpenSpec.upto fnResidualSpec)

/-- 'laws.FnNamed', WHERE WHAT IT READS IS OF BULK AT MOST 1048576: true; the input reads as it did. -/
def fnNamedUptoRow : OpenClaim := { program := "ythldegohihkkiabdoor", sum := "cf45affb8c3d7461ae5212199d732b553fc3283e40af21952b6df5a3c32e451d", func := "loop.example/intervalsandplaces/laws.FnNamed", spec := "fnNamed", inPlace := ["internal/abi.NoEscape"], unfollowed := true, recurses := true, named := ["loop.example/intervalsandplaces/impl.namedTable", "loop.example/intervalsandplaces/impl.basicTable"], apart := false, laid := [("loop.example/intervalsandplaces/impl.basicTable", laid_loop_example_intervalsandplaces_impl_basicTable), ("loop.example/intervalsandplaces/impl.namedTable", laid_loop_example_intervalsandplaces_impl_namedTable)], narrowed := true }
def FnNamedUptoSaid : Prop := fnNamedUptoRow.holds Tryd.pinned (OpenSpec.upto fnNamedSpec)

/-- 'laws.FnTurnBasic', WHERE WHAT IT READS IS OF BULK AT MOST 1048576: true; the input reads as it did. -/
def fnTurnBasicUptoRow : OpenClaim := { program := "ythldegohihkkiabdoor", sum := "cf45affb8c3d7461ae5212199d732b553fc3283e40af21952b6df5a3c32e451d", func := "loop.example/intervalsandplaces/laws.FnTurnBasic", spec := "fnTurnBasic", unfollowed := true, recurses := true, named := ["loop.example/intervalsandplaces/impl.basicTable", "loop.example/intervalsandplaces/impl.everyOrder"], apart := false, laid := [("loop.example/intervalsandplaces/impl.everyOrder", laid_loop_example_intervalsandplaces_impl_everyOrder), ("loop.example/intervalsandplaces/impl.basicTable", laid_loop_example_intervalsandplaces_impl_basicTable)], narrowed := true }
def FnTurnBasicUptoSaid : Prop := fnTurnBasicUptoRow.holds Tryd.pinned (OpenSpec.upto fnTurnBasicSpec)

/-- 'laws.FnBasicOf', WHERE WHAT IT READS IS OF BULK AT MOST 1048576: true; the input reads as it did. -/
def fnBasicOfUptoRow : OpenClaim := { program := "ythldegohihkkiabdoor", sum := "cf45affb8c3d7461ae5212199d732b553fc3283e40af21952b6df5a3c32e451d", func := "loop.example/intervalsandplaces/laws.FnBasicOf", spec := "fnBasicOf", unfollowed := true, recurses := true, named := ["loop.example/intervalsandplaces/impl.basicTable"], apart := false, laid := [("loop.example/intervalsandplaces/impl.basicTable", laid_loop_example_intervalsandplaces_impl_basicTable)], narrowed := true }
def FnBasicOfUptoSaid : Prop := fnBasicOfUptoRow.holds Tryd.pinned (OpenSpec.upto fnBasicOfSpec)

/-- 'laws.FnMeetOf', WHERE WHAT IT READS IS OF BULK AT MOST 1048576: true; the input reads as it did. -/
def fnMeetOfUptoRow : OpenClaim := { program := "ythldegohihkkiabdoor", sum := "cf45affb8c3d7461ae5212199d732b553fc3283e40af21952b6df5a3c32e451d", func := "loop.example/intervalsandplaces/laws.FnMeetOf", spec := "fnMeetOf", unfollowed := true, recurses := true, named := ["loop.example/intervalsandplaces/impl.basicTable"], apart := false, laid := [("loop.example/intervalsandplaces/impl.basicTable", laid_loop_example_intervalsandplaces_impl_basicTable)], narrowed := true }
def FnMeetOfUptoSaid : Prop := fnMeetOfUptoRow.holds Tryd.pinned (OpenSpec.upto fnMeetOfSpec)

/-- 'laws.FnIntervalText', WHERE WHAT IT READS IS OF BULK AT MOST 1048576: true; the input reads as it did. -/
def fnIntervalTextUptoRow : OpenClaim := { program := "ythldegohihkkiabdoor", sum := "cf45affb8c3d7461ae5212199d732b553fc3283e40af21952b6df5a3c32e451d", func := "loop.example/intervalsandplaces/laws.FnIntervalText", spec := "fnIntervalText", inPlace := ["internal/bytealg.IndexByteString", "internal/bytealg.IndexString"], recurses := true, named := ["internal/strconv.uint64pow10", "math/bits.deBruijn32tab", "math/bits.deBruijn64tab", "internal/bytealg.MaxLen", "strconv.ErrSyntax", "strconv.ErrRange"], apart := false, laid := [("math/bits.deBruijn32tab", laid_math_bits_deBruijn32tab), ("math/bits.deBruijn64tab", laid_math_bits_deBruijn64tab), ("internal/strconv.uint64pow10", laid_internal_strconv_uint64pow10), ("strconv.ErrRange", laid_strconv_ErrRange), ("strconv.ErrSyntax", laid_strconv_ErrSyntax)], narrowed := true }
def FnIntervalTextUptoSaid : Prop := fnIntervalTextUptoRow.holds Tryd.pinned (OpenSpec.upto fnIntervalTextSpec)

end Rows
end Go.Proofs.YthldegohihkkiabDoor
