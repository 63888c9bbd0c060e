/-
  NARROWER THAN 'FOR EVERY INPUT', by the rows' own cells (each row's printed sentence says how): FnExactPointNetValid: laid · FnExactOrderIn: laid · FnExactLimitOrder: laid · FnExactPointsHold: laid · FnExactPointableNet: laid · FnExactEndsNet: laid · FnExactNetOfEnds: laid · FnExactClosePoints: laid · FnExactPointsConsistent: laid · FnExactFirstPoints: laid · FnExactFormatPointNet: laid · FnExactParsePointNet: laid.
  DERIVED. THE GIVEN ROWS OF THIS SEAT. 12 by the template 'for every input the law returns true; each argument reads behind the call as it read before'; 0 by the template 'total and deterministic' (their statements: YtmdgkhebefnfeaaDoorTotals.lean).
  GIVEN WITH THE SEED: the statements are not yours to turn. If you find one false, say at which input.
  Laid BY PROGRAM, IN A SANDBOX (cutbox-rows.mjs): the forced cells as the released guide's own fill.sh prints them over the translation b6f2a5a266866ecd… (all of the seat's roots in one cut). By AI agents, Wed Nov 11 2026. No macro, syntax, notation, axiom, sorry.
-/
import Derived.Test.YtmdgkhebefnfeaaDoorChecked
import GoSem.PinnedTables
import GoSem.Claim
import GoSem.ClaimJoined
import GoSem.ClaimMapViews
import Derived.JoinedTies
import Derived.KernelRfl
namespace Go.Proofs.YtmdgkhebefnfeaaDoor
/- THE CELL 'sum', in the pinned program and in every row, IS THE sha256 OF THE DUMP (.gsa) THAT YtmdgkhebefnfeaaDoorProg.lean LOADS. Nothing in Lean hashes anything: it is a label: what it is worth is what the hold of that sum in a sandbox is worth. -/
noncomputable def Tryd.pinned : Pinned := { name := "ytmdgkhebefnfeaadoor", sum := "b6f2a5a266866ecd66f607624041138e25d425c4ac4a030955b84358e9fcf1ec", checked := Tryd.checked }
namespace Rows
def none {H : Type} : Left H := { results := [], args := [] }

/- WHAT THE LISTED PACKAGE-LEVEL VARIABLES READ AS WHEN THE CALL BEGINS. Each datum BY PROGRAM (the guide's laid-datum.mjs) off the statement by which the dump's own 'gosem.cut.vars' lays the variable. In a bare row this is a premise. The card (YtmdgkhebefnfeaaDoorCards.lean) ties it to the program's text. -/
def laid_loop_example_intervalsandplaces_impl_everyOrder {H : Type} : DataW H := .agg [.lit (.int .i64 1), .lit (.int .i64 2), .lit (.int .i64 4)]
def laid_loop_example_intervalsandplaces_impl_basicTable {H : Type} : DataW H := .agg [.agg [.lit (.string [98]), .lit (.int .i64 0), .lit (.int .i64 0)], .agg [.lit (.string [109]), .lit (.int .i64 0), .lit (.int .i64 1)], .agg [.lit (.string [111]), .lit (.int .i64 0), .lit (.int .i64 2)], .agg [.lit (.string [115]), .lit (.int .i64 1), .lit (.int .i64 2)], .agg [.lit (.string [100]), .lit (.int .i64 2), .lit (.int .i64 2)], .agg [.lit (.string [102]), .lit (.int .i64 2), .lit (.int .i64 3)], .agg [.lit (.string [101]), .lit (.int .i64 1), .lit (.int .i64 3)], .agg [.lit (.string [70]), .lit (.int .i64 0), .lit (.int .i64 3)], .agg [.lit (.string [68]), .lit (.int .i64 0), .lit (.int .i64 4)], .agg [.lit (.string [83]), .lit (.int .i64 1), .lit (.int .i64 4)], .agg [.lit (.string [79]), .lit (.int .i64 2), .lit (.int .i64 4)], .agg [.lit (.string [77]), .lit (.int .i64 3), .lit (.int .i64 4)], .agg [.lit (.string [66]), .lit (.int .i64 4), .lit (.int .i64 4)]]
def laid_math_bits_deBruijn32tab {H : Type} : DataW H := .agg [.lit (.int .u8 0), .lit (.int .u8 1), .lit (.int .u8 28), .lit (.int .u8 2), .lit (.int .u8 29), .lit (.int .u8 14), .lit (.int .u8 24), .lit (.int .u8 3), .lit (.int .u8 30), .lit (.int .u8 22), .lit (.int .u8 20), .lit (.int .u8 15), .lit (.int .u8 25), .lit (.int .u8 17), .lit (.int .u8 4), .lit (.int .u8 8), .lit (.int .u8 31), .lit (.int .u8 27), .lit (.int .u8 13), .lit (.int .u8 23), .lit (.int .u8 21), .lit (.int .u8 19), .lit (.int .u8 16), .lit (.int .u8 7), .lit (.int .u8 26), .lit (.int .u8 12), .lit (.int .u8 18), .lit (.int .u8 6), .lit (.int .u8 11), .lit (.int .u8 5), .lit (.int .u8 10), .lit (.int .u8 9)]
def laid_math_bits_deBruijn64tab {H : Type} : DataW H := .agg [.lit (.int .u8 0), .lit (.int .u8 1), .lit (.int .u8 56), .lit (.int .u8 2), .lit (.int .u8 57), .lit (.int .u8 49), .lit (.int .u8 28), .lit (.int .u8 3), .lit (.int .u8 61), .lit (.int .u8 58), .lit (.int .u8 42), .lit (.int .u8 50), .lit (.int .u8 38), .lit (.int .u8 29), .lit (.int .u8 17), .lit (.int .u8 4), .lit (.int .u8 62), .lit (.int .u8 47), .lit (.int .u8 59), .lit (.int .u8 36), .lit (.int .u8 45), .lit (.int .u8 43), .lit (.int .u8 51), .lit (.int .u8 22), .lit (.int .u8 53), .lit (.int .u8 39), .lit (.int .u8 33), .lit (.int .u8 30), .lit (.int .u8 24), .lit (.int .u8 18), .lit (.int .u8 12), .lit (.int .u8 5), .lit (.int .u8 63), .lit (.int .u8 55), .lit (.int .u8 48), .lit (.int .u8 27), .lit (.int .u8 60), .lit (.int .u8 41), .lit (.int .u8 37), .lit (.int .u8 16), .lit (.int .u8 46), .lit (.int .u8 35), .lit (.int .u8 44), .lit (.int .u8 21), .lit (.int .u8 52), .lit (.int .u8 32), .lit (.int .u8 23), .lit (.int .u8 11), .lit (.int .u8 54), .lit (.int .u8 26), .lit (.int .u8 40), .lit (.int .u8 15), .lit (.int .u8 34), .lit (.int .u8 20), .lit (.int .u8 31), .lit (.int .u8 10), .lit (.int .u8 25), .lit (.int .u8 14), .lit (.int .u8 19), .lit (.int .u8 9), .lit (.int .u8 13), .lit (.int .u8 8), .lit (.int .u8 7), .lit (.int .u8 6)]
def laid_internal_strconv_uint64pow10 {H : Type} : DataW H := .agg [.lit (.int .u64 1), .lit (.int .u64 10), .lit (.int .u64 100), .lit (.int .u64 1000), .lit (.int .u64 10000), .lit (.int .u64 100000), .lit (.int .u64 1000000), .lit (.int .u64 10000000), .lit (.int .u64 100000000), .lit (.int .u64 1000000000), .lit (.int .u64 10000000000), .lit (.int .u64 100000000000), .lit (.int .u64 1000000000000), .lit (.int .u64 10000000000000), .lit (.int .u64 100000000000000), .lit (.int .u64 1000000000000000), .lit (.int .u64 10000000000000000), .lit (.int .u64 100000000000000000), .lit (.int .u64 1000000000000000000), .lit (.int .u64 10000000000000000000)]
def laid_unicode_utf8_acceptRanges {H : Type} : DataW H := .agg [.agg [.lit (.int .u8 128), .lit (.int .u8 191)], .agg [.lit (.int .u8 160), .lit (.int .u8 191)], .agg [.lit (.int .u8 128), .lit (.int .u8 159)], .agg [.lit (.int .u8 144), .lit (.int .u8 191)], .agg [.lit (.int .u8 128), .lit (.int .u8 143)], .agg [.lit (.int .u8 0), .lit (.int .u8 0)], .agg [.lit (.int .u8 0), .lit (.int .u8 0)], .agg [.lit (.int .u8 0), .lit (.int .u8 0)], .agg [.lit (.int .u8 0), .lit (.int .u8 0)], .agg [.lit (.int .u8 0), .lit (.int .u8 0)], .agg [.lit (.int .u8 0), .lit (.int .u8 0)], .agg [.lit (.int .u8 0), .lit (.int .u8 0)], .agg [.lit (.int .u8 0), .lit (.int .u8 0)], .agg [.lit (.int .u8 0), .lit (.int .u8 0)], .agg [.lit (.int .u8 0), .lit (.int .u8 0)], .agg [.lit (.int .u8 0), .lit (.int .u8 0)]]
def laid_strconv_ErrRange {H : Type} : DataW H := .iface "*errors.errorString" (.ptr (.agg [.lit (.string [118, 97, 108, 117, 101, 32, 111, 117, 116, 32, 111, 102, 32, 114, 97, 110, 103, 101])]))
def laid_strconv_ErrSyntax {H : Type} : DataW H := .iface "*errors.errorString" (.ptr (.agg [.lit (.string [105, 110, 118, 97, 108, 105, 100, 32, 115, 121, 110, 116, 97, 120])]))
/-- One of Go's own tables, pinned by name: the form's constant. -/
def laid_unicode_utf8_first : DataW Unit := Go.Pinned.utf8First

/-- 'laws.FnExactPointNetValid': WHATEVER THE INPUT: true; the input reads as it did. -/
def fnExactPointNetValidSpec : ChangeSpec := { name := "fnExactPointNetValid", vars := ["loop.example/intervalsandplaces/impl.everyOrder"], fn := fun _ => fun
  | [d, g1] => { results := [.lit (.bool true)], args := [d], vars := [g1] }
  | _ => none }
def fnExactPointNetValidRow : OpenClaim := { program := "ytmdgkhebefnfeaadoor", sum := "b6f2a5a266866ecd66f607624041138e25d425c4ac4a030955b84358e9fcf1ec", func := "loop.example/intervalsandplaces/laws.FnExactPointNetValid", spec := "fnExactPointNetValid", inPlace := ["internal/bytealg.IndexByteString", "internal/abi.NoEscape"], recurses := true, named := ["loop.example/intervalsandplaces/impl.everyOrder"], plainKeys := false, apart := false, laid := [("loop.example/intervalsandplaces/impl.everyOrder", laid_loop_example_intervalsandplaces_impl_everyOrder)] }
def FnExactPointNetValidSaid : Prop := fnExactPointNetValidRow.holds Tryd.pinned (OpenSpec.ofChange fnExactPointNetValidSpec)

/-- ITS FALSE NEIGHBOUR: 'it returns false'. Refute it at one input. -/
def fnExactPointNetValidWrong : ChangeSpec := { name := "fnExactPointNetValid", vars := ["loop.example/intervalsandplaces/impl.everyOrder"], fn := fun _ => fun
  | [d, g1] => { results := [.lit (.bool false)], args := [d], vars := [g1] }
  | _ => none }
def FnExactPointNetValidWrongFalsely : Prop := fnExactPointNetValidRow.holds Tryd.pinned (OpenSpec.ofChange fnExactPointNetValidWrong)

/-- 'laws.FnExactOrderIn': WHATEVER THE INPUT: true; the input reads as it did. -/
def fnExactOrderInSpec : ChangeSpec := { name := "fnExactOrderIn", vars := ["loop.example/intervalsandplaces/impl.everyOrder"], fn := fun _ => fun
  | [d1, d2, d3, g1] => { results := [.lit (.bool true)], args := [d1, d2, d3], vars := [g1] }
  | _ => none }
def fnExactOrderInRow : OpenClaim := { program := "ytmdgkhebefnfeaadoor", sum := "b6f2a5a266866ecd66f607624041138e25d425c4ac4a030955b84358e9fcf1ec", func := "loop.example/intervalsandplaces/laws.FnExactOrderIn", spec := "fnExactOrderIn", inPlace := ["internal/bytealg.IndexByteString", "internal/abi.NoEscape"], recurses := true, named := ["loop.example/intervalsandplaces/impl.everyOrder"], plainKeys := false, apart := false, laid := [("loop.example/intervalsandplaces/impl.everyOrder", laid_loop_example_intervalsandplaces_impl_everyOrder)] }
def FnExactOrderInSaid : Prop := fnExactOrderInRow.holds Tryd.pinned (OpenSpec.ofChange fnExactOrderInSpec)

/-- ITS FALSE NEIGHBOUR: 'it returns false'. Refute it at one input. -/
def fnExactOrderInWrong : ChangeSpec := { name := "fnExactOrderIn", vars := ["loop.example/intervalsandplaces/impl.everyOrder"], fn := fun _ => fun
  | [d1, d2, d3, g1] => { results := [.lit (.bool false)], args := [d1, d2, d3], vars := [g1] }
  | _ => none }
def FnExactOrderInWrongFalsely : Prop := fnExactOrderInRow.holds Tryd.pinned (OpenSpec.ofChange fnExactOrderInWrong)

/-- 'laws.FnExactLimitOrder': WHATEVER THE INPUT: true; the input reads as it did. -/
def fnExactLimitOrderSpec : ChangeSpec := { name := "fnExactLimitOrder", vars := ["loop.example/intervalsandplaces/impl.everyOrder"], fn := fun _ => fun
  | [d1, d2, d3, d4, g1] => { results := [.lit (.bool true)], args := [d1, d2, d3, d4], vars := [g1] }
  | _ => none }
def fnExactLimitOrderRow : OpenClaim := { program := "ytmdgkhebefnfeaadoor", sum := "b6f2a5a266866ecd66f607624041138e25d425c4ac4a030955b84358e9fcf1ec", func := "loop.example/intervalsandplaces/laws.FnExactLimitOrder", spec := "fnExactLimitOrder", inPlace := ["internal/bytealg.IndexByteString", "internal/abi.NoEscape"], recurses := true, named := ["loop.example/intervalsandplaces/impl.everyOrder"], plainKeys := false, apart := false, laid := [("loop.example/intervalsandplaces/impl.everyOrder", laid_loop_example_intervalsandplaces_impl_everyOrder)] }
def FnExactLimitOrderSaid : Prop := fnExactLimitOrderRow.holds Tryd.pinned (OpenSpec.ofChange fnExactLimitOrderSpec)

/-- ITS FALSE NEIGHBOUR: 'it returns false'. Refute it at one input. -/
def fnExactLimitOrderWrong : ChangeSpec := { name := "fnExactLimitOrder", vars := ["loop.example/intervalsandplaces/impl.everyOrder"], fn := fun _ => fun
  | [d1, d2, d3, d4, g1] => { results := [.lit (.bool false)], args := [d1, d2, d3, d4], vars := [g1] }
  | _ => none }
def FnExactLimitOrderWrongFalsely : Prop := fnExactLimitOrderRow.holds Tryd.pinned (OpenSpec.ofChange fnExactLimitOrderWrong)

/-- 'laws.FnExactPointsHold': WHATEVER THE INPUT: true; the input reads as it did. -/
def fnExactPointsHoldSpec : ChangeSpec := { name := "fnExactPointsHold", vars := ["loop.example/intervalsandplaces/impl.everyOrder"], fn := fun _ => fun
  | [d1, d2, g1] => { results := [.lit (.bool true)], args := [d1, d2], vars := [g1] }
  | _ => none }
def fnExactPointsHoldRow : OpenClaim := { program := "ytmdgkhebefnfeaadoor", sum := "b6f2a5a266866ecd66f607624041138e25d425c4ac4a030955b84358e9fcf1ec", func := "loop.example/intervalsandplaces/laws.FnExactPointsHold", spec := "fnExactPointsHold", inPlace := ["internal/bytealg.IndexByteString", "internal/abi.NoEscape"], recurses := true, named := ["loop.example/intervalsandplaces/impl.everyOrder"], plainKeys := false, apart := false, laid := [("loop.example/intervalsandplaces/impl.everyOrder", laid_loop_example_intervalsandplaces_impl_everyOrder)] }
def FnExactPointsHoldSaid : Prop := fnExactPointsHoldRow.holds Tryd.pinned (OpenSpec.ofChange fnExactPointsHoldSpec)

/-- ITS FALSE NEIGHBOUR: 'it returns false'. Refute it at one input. -/
def fnExactPointsHoldWrong : ChangeSpec := { name := "fnExactPointsHold", vars := ["loop.example/intervalsandplaces/impl.everyOrder"], fn := fun _ => fun
  | [d1, d2, g1] => { results := [.lit (.bool false)], args := [d1, d2], vars := [g1] }
  | _ => none }
def FnExactPointsHoldWrongFalsely : Prop := fnExactPointsHoldRow.holds Tryd.pinned (OpenSpec.ofChange fnExactPointsHoldWrong)

/-- 'laws.FnExactPointableNet': WHATEVER THE INPUT: true; the input reads as it did. -/
def fnExactPointableNetSpec : ChangeSpec := { name := "fnExactPointableNet", vars := ["loop.example/intervalsandplaces/impl.basicTable"], fn := fun _ => fun
  | [d, g1] => { results := [.lit (.bool true)], args := [d], vars := [g1] }
  | _ => none }
def fnExactPointableNetRow : OpenClaim := { program := "ytmdgkhebefnfeaadoor", sum := "b6f2a5a266866ecd66f607624041138e25d425c4ac4a030955b84358e9fcf1ec", func := "loop.example/intervalsandplaces/laws.FnExactPointableNet", spec := "fnExactPointableNet", inPlace := ["internal/bytealg.IndexByteString"], unfollowed := true, recurses := true, named := ["loop.example/intervalsandplaces/impl.basicTable"], plainKeys := false, apart := false, laid := [("loop.example/intervalsandplaces/impl.basicTable", laid_loop_example_intervalsandplaces_impl_basicTable)] }
def FnExactPointableNetSaid : Prop := fnExactPointableNetRow.holds Tryd.pinned (OpenSpec.ofChange fnExactPointableNetSpec)

/-- ITS FALSE NEIGHBOUR: 'it returns false'. Refute it at one input. -/
def fnExactPointableNetWrong : ChangeSpec := { name := "fnExactPointableNet", vars := ["loop.example/intervalsandplaces/impl.basicTable"], fn := fun _ => fun
  | [d, g1] => { results := [.lit (.bool false)], args := [d], vars := [g1] }
  | _ => none }
def FnExactPointableNetWrongFalsely : Prop := fnExactPointableNetRow.holds Tryd.pinned (OpenSpec.ofChange fnExactPointableNetWrong)

/-- 'laws.FnExactEndsNet': WHATEVER THE INPUT: true; the input reads as it did. -/
def fnExactEndsNetSpec : ChangeSpec := { name := "fnExactEndsNet", vars := ["loop.example/intervalsandplaces/impl.basicTable", "loop.example/intervalsandplaces/impl.everyOrder"], fn := fun _ => fun
  | [d, g1, g2] => { results := [.lit (.bool true)], args := [d], vars := [g1, g2] }
  | _ => none }
def fnExactEndsNetRow : OpenClaim := { program := "ytmdgkhebefnfeaadoor", sum := "b6f2a5a266866ecd66f607624041138e25d425c4ac4a030955b84358e9fcf1ec", func := "loop.example/intervalsandplaces/laws.FnExactEndsNet", spec := "fnExactEndsNet", inPlace := ["internal/bytealg.IndexByteString", "internal/abi.NoEscape"], unfollowed := true, recurses := true, named := ["loop.example/intervalsandplaces/impl.basicTable", "loop.example/intervalsandplaces/impl.everyOrder"], plainKeys := false, apart := false, laid := [("loop.example/intervalsandplaces/impl.everyOrder", laid_loop_example_intervalsandplaces_impl_everyOrder), ("loop.example/intervalsandplaces/impl.basicTable", laid_loop_example_intervalsandplaces_impl_basicTable)] }
def FnExactEndsNetSaid : Prop := fnExactEndsNetRow.holds Tryd.pinned (OpenSpec.ofChange fnExactEndsNetSpec)

/-- ITS FALSE NEIGHBOUR: 'it returns false'. Refute it at one input. -/
def fnExactEndsNetWrong : ChangeSpec := { name := "fnExactEndsNet", vars := ["loop.example/intervalsandplaces/impl.basicTable", "loop.example/intervalsandplaces/impl.everyOrder"], fn := fun _ => fun
  | [d, g1, g2] => { results := [.lit (.bool false)], args := [d], vars := [g1, g2] }
  | _ => none }
def FnExactEndsNetWrongFalsely : Prop := fnExactEndsNetRow.holds Tryd.pinned (OpenSpec.ofChange fnExactEndsNetWrong)

/-- 'laws.FnExactNetOfEnds': WHATEVER THE INPUT: true; the input reads as it did. -/
def fnExactNetOfEndsSpec : ChangeSpec := { name := "fnExactNetOfEnds", vars := ["loop.example/intervalsandplaces/impl.everyOrder", "loop.example/intervalsandplaces/impl.basicTable"], fn := fun _ => fun
  | [d, g1, g2] => { results := [.lit (.bool true)], args := [d], vars := [g1, g2] }
  | _ => none }
def fnExactNetOfEndsRow : OpenClaim := { program := "ytmdgkhebefnfeaadoor", sum := "b6f2a5a266866ecd66f607624041138e25d425c4ac4a030955b84358e9fcf1ec", func := "loop.example/intervalsandplaces/laws.FnExactNetOfEnds", spec := "fnExactNetOfEnds", inPlace := ["internal/bytealg.IndexByteString", "internal/abi.NoEscape"], unfollowed := true, recurses := true, named := ["loop.example/intervalsandplaces/impl.everyOrder", "loop.example/intervalsandplaces/impl.basicTable"], plainKeys := false, apart := false, laid := [("loop.example/intervalsandplaces/impl.everyOrder", laid_loop_example_intervalsandplaces_impl_everyOrder), ("loop.example/intervalsandplaces/impl.basicTable", laid_loop_example_intervalsandplaces_impl_basicTable)] }
def FnExactNetOfEndsSaid : Prop := fnExactNetOfEndsRow.holds Tryd.pinned (OpenSpec.ofChange fnExactNetOfEndsSpec)

/-- ITS FALSE NEIGHBOUR: 'it returns false'. Refute it at one input. -/
def fnExactNetOfEndsWrong : ChangeSpec := { name := "fnExactNetOfEnds", vars := ["loop.example/intervalsandplaces/impl.everyOrder", "loop.example/intervalsandplaces/impl.basicTable"], fn := fun _ => fun
  | [d, g1, g2] => { results := [.lit (.bool false)], args := [d], vars := [g1, g2] }
  | _ => none }
def FnExactNetOfEndsWrongFalsely : Prop := fnExactNetOfEndsRow.holds Tryd.pinned (OpenSpec.ofChange fnExactNetOfEndsWrong)

/-- 'laws.FnExactClosePoints': WHATEVER THE INPUT: true; the input reads as it did. -/
def fnExactClosePointsSpec : ChangeSpec := { name := "fnExactClosePoints", vars := ["loop.example/intervalsandplaces/impl.everyOrder"], fn := fun _ => fun
  | [d, g1] => { results := [.lit (.bool true)], args := [d], vars := [g1] }
  | _ => none }
def fnExactClosePointsRow : OpenClaim := { program := "ytmdgkhebefnfeaadoor", sum := "b6f2a5a266866ecd66f607624041138e25d425c4ac4a030955b84358e9fcf1ec", func := "loop.example/intervalsandplaces/laws.FnExactClosePoints", spec := "fnExactClosePoints", inPlace := ["internal/bytealg.IndexByteString", "internal/abi.NoEscape"], recurses := true, named := ["loop.example/intervalsandplaces/impl.everyOrder"], plainKeys := false, apart := false, laid := [("loop.example/intervalsandplaces/impl.everyOrder", laid_loop_example_intervalsandplaces_impl_everyOrder)] }
def FnExactClosePointsSaid : Prop := fnExactClosePointsRow.holds Tryd.pinned (OpenSpec.ofChange fnExactClosePointsSpec)

/-- ITS FALSE NEIGHBOUR: 'it returns false'. Refute it at one input. -/
def fnExactClosePointsWrong : ChangeSpec := { name := "fnExactClosePoints", vars := ["loop.example/intervalsandplaces/impl.everyOrder"], fn := fun _ => fun
  | [d, g1] => { results := [.lit (.bool false)], args := [d], vars := [g1] }
  | _ => none }
def FnExactClosePointsWrongFalsely : Prop := fnExactClosePointsRow.holds Tryd.pinned (OpenSpec.ofChange fnExactClosePointsWrong)

/-- 'laws.FnExactPointsConsistent': WHATEVER THE INPUT: true; the input reads as it did. -/
def fnExactPointsConsistentSpec : ChangeSpec := { name := "fnExactPointsConsistent", vars := ["loop.example/intervalsandplaces/impl.everyOrder"], fn := fun _ => fun
  | [d, g1] => { results := [.lit (.bool true)], args := [d], vars := [g1] }
  | _ => none }
def fnExactPointsConsistentRow : OpenClaim := { program := "ytmdgkhebefnfeaadoor", sum := "b6f2a5a266866ecd66f607624041138e25d425c4ac4a030955b84358e9fcf1ec", func := "loop.example/intervalsandplaces/laws.FnExactPointsConsistent", spec := "fnExactPointsConsistent", inPlace := ["internal/bytealg.IndexByteString", "internal/abi.NoEscape"], unfollowed := true, recurses := true, named := ["loop.example/intervalsandplaces/impl.everyOrder"], plainKeys := false, apart := false, laid := [("loop.example/intervalsandplaces/impl.everyOrder", laid_loop_example_intervalsandplaces_impl_everyOrder)] }
def FnExactPointsConsistentSaid : Prop := fnExactPointsConsistentRow.holds Tryd.pinned (OpenSpec.ofChange fnExactPointsConsistentSpec)

/-- ITS FALSE NEIGHBOUR: 'it returns false'. Refute it at one input. -/
def fnExactPointsConsistentWrong : ChangeSpec := { name := "fnExactPointsConsistent", vars := ["loop.example/intervalsandplaces/impl.everyOrder"], fn := fun _ => fun
  | [d, g1] => { results := [.lit (.bool false)], args := [d], vars := [g1] }
  | _ => none }
def FnExactPointsConsistentWrongFalsely : Prop := fnExactPointsConsistentRow.holds Tryd.pinned (OpenSpec.ofChange fnExactPointsConsistentWrong)

/-- 'laws.FnExactFirstPoints': WHATEVER THE INPUT: true; the input reads as it did. -/
def fnExactFirstPointsSpec : ChangeSpec := { name := "fnExactFirstPoints", vars := ["loop.example/intervalsandplaces/impl.everyOrder"], fn := fun _ => fun
  | [d, g1] => { results := [.lit (.bool true)], args := [d], vars := [g1] }
  | _ => none }
def fnExactFirstPointsRow : OpenClaim := { program := "ytmdgkhebefnfeaadoor", sum := "b6f2a5a266866ecd66f607624041138e25d425c4ac4a030955b84358e9fcf1ec", func := "loop.example/intervalsandplaces/laws.FnExactFirstPoints", spec := "fnExactFirstPoints", inPlace := ["internal/bytealg.IndexByteString", "internal/abi.NoEscape", "maps.clone"], unfollowed := true, recurses := true, named := ["loop.example/intervalsandplaces/impl.everyOrder"], plainKeys := false, apart := false, laid := [("loop.example/intervalsandplaces/impl.everyOrder", laid_loop_example_intervalsandplaces_impl_everyOrder)] }
def FnExactFirstPointsSaid : Prop := fnExactFirstPointsRow.holds Tryd.pinned (OpenSpec.ofChange fnExactFirstPointsSpec)

/-- ITS FALSE NEIGHBOUR: 'it returns false'. Refute it at one input. -/
def fnExactFirstPointsWrong : ChangeSpec := { name := "fnExactFirstPoints", vars := ["loop.example/intervalsandplaces/impl.everyOrder"], fn := fun _ => fun
  | [d, g1] => { results := [.lit (.bool false)], args := [d], vars := [g1] }
  | _ => none }
def FnExactFirstPointsWrongFalsely : Prop := fnExactFirstPointsRow.holds Tryd.pinned (OpenSpec.ofChange fnExactFirstPointsWrong)

/-- 'laws.FnExactFormatPointNet': WHATEVER THE INPUT: true; the input reads as it did. -/
def fnExactFormatPointNetSpec : ChangeSpec := { name := "fnExactFormatPointNet", vars := ["loop.example/intervalsandplaces/impl.everyOrder"], fn := fun _ => fun
  | [d, g1] => { results := [.lit (.bool true)], args := [d], vars := [g1] }
  | _ => none }
def fnExactFormatPointNetRow : OpenClaim := { program := "ytmdgkhebefnfeaadoor", sum := "b6f2a5a266866ecd66f607624041138e25d425c4ac4a030955b84358e9fcf1ec", func := "loop.example/intervalsandplaces/laws.FnExactFormatPointNet", spec := "fnExactFormatPointNet", inPlace := ["internal/bytealg.IndexByteString", "internal/abi.NoEscape"], recurses := true, named := ["loop.example/intervalsandplaces/impl.everyOrder", "internal/strconv.uint64pow10", "math/bits.deBruijn32tab", "math/bits.deBruijn64tab"], plainKeys := false, apart := false, laid := [("math/bits.deBruijn32tab", laid_math_bits_deBruijn32tab), ("math/bits.deBruijn64tab", laid_math_bits_deBruijn64tab), ("internal/strconv.uint64pow10", laid_internal_strconv_uint64pow10), ("loop.example/intervalsandplaces/impl.everyOrder", laid_loop_example_intervalsandplaces_impl_everyOrder)] }
def FnExactFormatPointNetSaid : Prop := fnExactFormatPointNetRow.holds Tryd.pinned (OpenSpec.ofChange fnExactFormatPointNetSpec)

/-- ITS FALSE NEIGHBOUR: 'it returns false'. Refute it at one input. -/
def fnExactFormatPointNetWrong : ChangeSpec := { name := "fnExactFormatPointNet", vars := ["loop.example/intervalsandplaces/impl.everyOrder"], fn := fun _ => fun
  | [d, g1] => { results := [.lit (.bool false)], args := [d], vars := [g1] }
  | _ => none }
def FnExactFormatPointNetWrongFalsely : Prop := fnExactFormatPointNetRow.holds Tryd.pinned (OpenSpec.ofChange fnExactFormatPointNetWrong)

/-- 'laws.FnExactParsePointNet': WHATEVER THE INPUT: true; the input reads as it did. -/
def fnExactParsePointNetSpec : ChangeSpec := { name := "fnExactParsePointNet", vars := ["loop.example/intervalsandplaces/impl.everyOrder"], fn := fun _ => fun
  | [d, g1] => { results := [.lit (.bool true)], args := [d], vars := [g1] }
  | _ => none }
def fnExactParsePointNetRow : OpenClaim := { program := "ytmdgkhebefnfeaadoor", sum := "b6f2a5a266866ecd66f607624041138e25d425c4ac4a030955b84358e9fcf1ec", func := "loop.example/intervalsandplaces/laws.FnExactParsePointNet", spec := "fnExactParsePointNet", inPlace := ["internal/bytealg.CountString", "internal/bytealg.IndexByteString", "internal/bytealg.IndexString", "internal/abi.NoEscape"], recurses := true, named := ["unicode/utf8.first", "unicode/utf8.acceptRanges", "internal/bytealg.MaxLen", "strconv.ErrSyntax", "strconv.ErrRange", "internal/strconv.uint64pow10", "math/bits.deBruijn32tab", "math/bits.deBruijn64tab", "loop.example/intervalsandplaces/impl.everyOrder"], plainKeys := false, apart := false, laid := [("math/bits.deBruijn32tab", laid_math_bits_deBruijn32tab), ("math/bits.deBruijn64tab", laid_math_bits_deBruijn64tab), ("internal/strconv.uint64pow10", laid_internal_strconv_uint64pow10), ("unicode/utf8.acceptRanges", laid_unicode_utf8_acceptRanges), ("strconv.ErrRange", laid_strconv_ErrRange), ("strconv.ErrSyntax", laid_strconv_ErrSyntax), ("loop.example/intervalsandplaces/impl.everyOrder", laid_loop_example_intervalsandplaces_impl_everyOrder), ("unicode/utf8.first", laid_unicode_utf8_first)] }
def FnExactParsePointNetSaid : Prop := fnExactParsePointNetRow.holds Tryd.pinned (OpenSpec.ofChange fnExactParsePointNetSpec)

/-- ITS FALSE NEIGHBOUR: 'it returns false'. Refute it at one input. -/
def fnExactParsePointNetWrong : ChangeSpec := { name := "fnExactParsePointNet", vars := ["loop.example/intervalsandplaces/impl.everyOrder"], fn := fun _ => fun
  | [d, g1] => { results := [.lit (.bool false)], args := [d], vars := [g1] }
  | _ => none }
def FnExactParsePointNetWrongFalsely : Prop := fnExactParsePointNetRow.holds Tryd.pinned (OpenSpec.ofChange fnExactParsePointNetWrong)

/- THE SECOND FORM. 'bulk': how many values and letters a reading holds, each counted each time it is reached (what is shared counts as often as it is met; a slice's spare places count too). A statement '..UptoSaid' is the law's where the arguments, and the package variables that the reading takes, are together of bulk at most 1048576: NARROWER than '..Said'. Prove '..Said' where nothing that the law and all that it calls make is longer than what came in: it says more and counts as full. Else prove '..UptoSaid'. A law counts once. -/
mutual
def uptoBulk {H : Type} : DataW H → Nat
  | .lit (.string bytes) => bytes.length + 1
  | .lit _ => 1
  | .nil => 1
  | .ptr d => uptoBulk d + 1
  | .slice elems spare => uptoBulkAll elems + uptoBulkAll spare + 1
  | .agg parts => uptoBulkAll parts + 1
  | .iface _ d => uptoBulk d + 1
  | .map entries => uptoBulkEntries entries + 1
  | .held _ => 1
def uptoBulkAll {H : Type} : List (DataW H) → Nat
  | [] => 0
  | d :: r => uptoBulk d + uptoBulkAll r
def uptoBulkEntries {H : Type} : List (Lit × DataW H) → Nat
  | [] => 0
  | x :: r => uptoBulkEntry x + uptoBulkEntries r
def uptoBulkEntry {H : Type} : Lit × DataW H → Nat
  | (.string bytes, d) => bytes.length + uptoBulk d + 1
  | (_, d) => uptoBulk d + 1
 end
def uptoSmall : (H : Type) → List (DataW H) → Bool := fun _ ds => decide (uptoBulkAll ds ≤ 1048576)
def OpenSpec.upto (s : _root_.Go.ChangeSpec) : _root_.Go.OpenSpec := { _root_.Go.OpenSpec.ofChange s with cond := some uptoSmall }

/-- 'laws.FnExactPointNetValid', WHERE WHAT IT READS IS OF BULK AT MOST 1048576: true; the input reads as it did. -/
def fnExactPointNetValidUptoRow : OpenClaim := { program := "ytmdgkhebefnfeaadoor", sum := "b6f2a5a266866ecd66f607624041138e25d425c4ac4a030955b84358e9fcf1ec", func := "loop.example/intervalsandplaces/laws.FnExactPointNetValid", spec := "fnExactPointNetValid", inPlace := ["internal/bytealg.IndexByteString", "internal/abi.NoEscape"], recurses := true, named := ["loop.example/intervalsandplaces/impl.everyOrder"], plainKeys := false, apart := false, laid := [("loop.example/intervalsandplaces/impl.everyOrder", laid_loop_example_intervalsandplaces_impl_everyOrder)], narrowed := true }
def FnExactPointNetValidUptoSaid : Prop := fnExactPointNetValidUptoRow.holds Tryd.pinned (OpenSpec.upto fnExactPointNetValidSpec)

/-- 'laws.FnExactOrderIn', WHERE WHAT IT READS IS OF BULK AT MOST 1048576: true; the input reads as it did. -/
def fnExactOrderInUptoRow : OpenClaim := { program := "ytmdgkhebefnfeaadoor", sum := "b6f2a5a266866ecd66f607624041138e25d425c4ac4a030955b84358e9fcf1ec", func := "loop.example/intervalsandplaces/laws.FnExactOrderIn", spec := "fnExactOrderIn", inPlace := ["internal/bytealg.IndexByteString", "internal/abi.NoEscape"], recurses := true, named := ["loop.example/intervalsandplaces/impl.everyOrder"], plainKeys := false, apart := false, laid := [("loop.example/intervalsandplaces/impl.everyOrder", laid_loop_example_intervalsandplaces_impl_everyOrder)], narrowed := true }
def FnExactOrderInUptoSaid : Prop := fnExactOrderInUptoRow.holds Tryd.pinned (OpenSpec.upto fnExactOrderInSpec)

/-- 'laws.FnExactLimitOrder', WHERE WHAT IT READS IS OF BULK AT MOST 1048576: true; the input reads as it did. -/
def fnExactLimitOrderUptoRow : OpenClaim := { program := "ytmdgkhebefnfeaadoor", sum := "b6f2a5a266866ecd66f607624041138e25d425c4ac4a030955b84358e9fcf1ec", func := "loop.example/intervalsandplaces/laws.FnExactLimitOrder", spec := "fnExactLimitOrder", inPlace := ["internal/bytealg.IndexByteString", "internal/abi.NoEscape"], recurses := true, named := ["loop.example/intervalsandplaces/impl.everyOrder"], plainKeys := false, apart := false, laid := [("loop.example/intervalsandplaces/impl.everyOrder", laid_loop_example_intervalsandplaces_impl_everyOrder)], narrowed := true }
def FnExactLimitOrderUptoSaid : Prop := fnExactLimitOrderUptoRow.holds Tryd.pinned (OpenSpec.upto fnExactLimitOrderSpec)

/-- 'laws.FnExactPointsHold', WHERE WHAT IT READS IS OF BULK AT MOST 1048576: true; the input reads as it did. -/
def fnExactPointsHoldUptoRow : OpenClaim := { program := "ytmdgkhebefnfeaadoor", sum := "b6f2a5a266866ecd66f607624041138e25d425c4ac4a030955b84358e9fcf1ec", func := "loop.example/intervalsandplaces/laws.FnExactPointsHold", spec := "fnExactPointsHold", inPlace := ["internal/bytealg.IndexByteString", "internal/abi.NoEscape"], recurses := true, named := ["loop.example/intervalsandplaces/impl.everyOrder"], plainKeys := false, apart := false, laid := [("loop.example/intervalsandplaces/impl.everyOrder", laid_loop_example_intervalsandplaces_impl_everyOrder)], narrowed := true }
def FnExactPointsHoldUptoSaid : Prop := fnExactPointsHoldUptoRow.holds Tryd.pinned (OpenSpec.upto fnExactPointsHoldSpec)

/-- 'laws.FnExactPointableNet', WHERE WHAT IT READS IS OF BULK AT MOST 1048576: true; the input reads as it did. -/
def fnExactPointableNetUptoRow : OpenClaim := { program := "ytmdgkhebefnfeaadoor", sum := "b6f2a5a266866ecd66f607624041138e25d425c4ac4a030955b84358e9fcf1ec", func := "loop.example/intervalsandplaces/laws.FnExactPointableNet", spec := "fnExactPointableNet", inPlace := ["internal/bytealg.IndexByteString"], unfollowed := true, recurses := true, named := ["loop.example/intervalsandplaces/impl.basicTable"], plainKeys := false, apart := false, laid := [("loop.example/intervalsandplaces/impl.basicTable", laid_loop_example_intervalsandplaces_impl_basicTable)], narrowed := true }
def FnExactPointableNetUptoSaid : Prop := fnExactPointableNetUptoRow.holds Tryd.pinned (OpenSpec.upto fnExactPointableNetSpec)

/-- 'laws.FnExactEndsNet', WHERE WHAT IT READS IS OF BULK AT MOST 1048576: true; the input reads as it did. -/
def fnExactEndsNetUptoRow : OpenClaim := { program := "ytmdgkhebefnfeaadoor", sum := "b6f2a5a266866ecd66f607624041138e25d425c4ac4a030955b84358e9fcf1ec", func := "loop.example/intervalsandplaces/laws.FnExactEndsNet", spec := "fnExactEndsNet", inPlace := ["internal/bytealg.IndexByteString", "internal/abi.NoEscape"], unfollowed := true, recurses := true, named := ["loop.example/intervalsandplaces/impl.basicTable", "loop.example/intervalsandplaces/impl.everyOrder"], plainKeys := false, apart := false, laid := [("loop.example/intervalsandplaces/impl.everyOrder", laid_loop_example_intervalsandplaces_impl_everyOrder), ("loop.example/intervalsandplaces/impl.basicTable", laid_loop_example_intervalsandplaces_impl_basicTable)], narrowed := true }
def FnExactEndsNetUptoSaid : Prop := fnExactEndsNetUptoRow.holds Tryd.pinned (OpenSpec.upto fnExactEndsNetSpec)

/-- 'laws.FnExactNetOfEnds', WHERE WHAT IT READS IS OF BULK AT MOST 1048576: true; the input reads as it did. -/
def fnExactNetOfEndsUptoRow : OpenClaim := { program := "ytmdgkhebefnfeaadoor", sum := "b6f2a5a266866ecd66f607624041138e25d425c4ac4a030955b84358e9fcf1ec", func := "loop.example/intervalsandplaces/laws.FnExactNetOfEnds", spec := "fnExactNetOfEnds", inPlace := ["internal/bytealg.IndexByteString", "internal/abi.NoEscape"], unfollowed := true, recurses := true, named := ["loop.example/intervalsandplaces/impl.everyOrder", "loop.example/intervalsandplaces/impl.basicTable"], plainKeys := false, apart := false, laid := [("loop.example/intervalsandplaces/impl.everyOrder", laid_loop_example_intervalsandplaces_impl_everyOrder), ("loop.example/intervalsandplaces/impl.basicTable", laid_loop_example_intervalsandplaces_impl_basicTable)], narrowed := true }
def FnExactNetOfEndsUptoSaid : Prop := fnExactNetOfEndsUptoRow.holds Tryd.pinned (OpenSpec.upto fnExactNetOfEndsSpec)

/-- 'laws.FnExactClosePoints', WHERE WHAT IT READS IS OF BULK AT MOST 1048576: true; the input reads as it did. -/
def fnExactClosePointsUptoRow : OpenClaim := { program := "ytmdgkhebefnfeaadoor", sum := "b6f2a5a266866ecd66f607624041138e25d425c4ac4a030955b84358e9fcf1ec", func := "loop.example/intervalsandplaces/laws.FnExactClosePoints", spec := "fnExactClosePoints", inPlace := ["internal/bytealg.IndexByteString", "internal/abi.NoEscape"], recurses := true, named := ["loop.example/intervalsandplaces/impl.everyOrder"], plainKeys := false, apart := false, laid := [("loop.example/intervalsandplaces/impl.everyOrder", laid_loop_example_intervalsandplaces_impl_everyOrder)], narrowed := true }
def FnExactClosePointsUptoSaid : Prop := fnExactClosePointsUptoRow.holds Tryd.pinned (OpenSpec.upto fnExactClosePointsSpec)

/-- 'laws.FnExactPointsConsistent', WHERE WHAT IT READS IS OF BULK AT MOST 1048576: true; the input reads as it did. -/
def fnExactPointsConsistentUptoRow : OpenClaim := { program := "ytmdgkhebefnfeaadoor", sum := "b6f2a5a266866ecd66f607624041138e25d425c4ac4a030955b84358e9fcf1ec", func := "loop.example/intervalsandplaces/laws.FnExactPointsConsistent", spec := "fnExactPointsConsistent", inPlace := ["internal/bytealg.IndexByteString", "internal/abi.NoEscape"], unfollowed := true, recurses := true, named := ["loop.example/intervalsandplaces/impl.everyOrder"], plainKeys := false, apart := false, laid := [("loop.example/intervalsandplaces/impl.everyOrder", laid_loop_example_intervalsandplaces_impl_everyOrder)], narrowed := true }
def FnExactPointsConsistentUptoSaid : Prop := fnExactPointsConsistentUptoRow.holds Tryd.pinned (OpenSpec.upto fnExactPointsConsistentSpec)

/-- 'laws.FnExactFirstPoints', WHERE WHAT IT READS IS OF BULK AT MOST 1048576: true; the input reads as it did. -/
def fnExactFirstPointsUptoRow : OpenClaim := { program := "ytmdgkhebefnfeaadoor", sum := "b6f2a5a266866ecd66f607624041138e25d425c4ac4a030955b84358e9fcf1ec", func := "loop.example/intervalsandplaces/laws.FnExactFirstPoints", spec := "fnExactFirstPoints", inPlace := ["internal/bytealg.IndexByteString", "internal/abi.NoEscape", "maps.clone"], unfollowed := true, recurses := true, named := ["loop.example/intervalsandplaces/impl.everyOrder"], plainKeys := false, apart := false, laid := [("loop.example/intervalsandplaces/impl.everyOrder", laid_loop_example_intervalsandplaces_impl_everyOrder)], narrowed := true }
def FnExactFirstPointsUptoSaid : Prop := fnExactFirstPointsUptoRow.holds Tryd.pinned (OpenSpec.upto fnExactFirstPointsSpec)

/-- 'laws.FnExactFormatPointNet', WHERE WHAT IT READS IS OF BULK AT MOST 1048576: true; the input reads as it did. -/
def fnExactFormatPointNetUptoRow : OpenClaim := { program := "ytmdgkhebefnfeaadoor", sum := "b6f2a5a266866ecd66f607624041138e25d425c4ac4a030955b84358e9fcf1ec", func := "loop.example/intervalsandplaces/laws.FnExactFormatPointNet", spec := "fnExactFormatPointNet", inPlace := ["internal/bytealg.IndexByteString", "internal/abi.NoEscape"], recurses := true, named := ["loop.example/intervalsandplaces/impl.everyOrder", "internal/strconv.uint64pow10", "math/bits.deBruijn32tab", "math/bits.deBruijn64tab"], plainKeys := false, apart := false, laid := [("math/bits.deBruijn32tab", laid_math_bits_deBruijn32tab), ("math/bits.deBruijn64tab", laid_math_bits_deBruijn64tab), ("internal/strconv.uint64pow10", laid_internal_strconv_uint64pow10), ("loop.example/intervalsandplaces/impl.everyOrder", laid_loop_example_intervalsandplaces_impl_everyOrder)], narrowed := true }
def FnExactFormatPointNetUptoSaid : Prop := fnExactFormatPointNetUptoRow.holds Tryd.pinned (OpenSpec.upto fnExactFormatPointNetSpec)

/-- 'laws.FnExactParsePointNet', WHERE WHAT IT READS IS OF BULK AT MOST 1048576: true; the input reads as it did. -/
def fnExactParsePointNetUptoRow : OpenClaim := { program := "ytmdgkhebefnfeaadoor", sum := "b6f2a5a266866ecd66f607624041138e25d425c4ac4a030955b84358e9fcf1ec", func := "loop.example/intervalsandplaces/laws.FnExactParsePointNet", spec := "fnExactParsePointNet", inPlace := ["internal/bytealg.CountString", "internal/bytealg.IndexByteString", "internal/bytealg.IndexString", "internal/abi.NoEscape"], recurses := true, named := ["unicode/utf8.first", "unicode/utf8.acceptRanges", "internal/bytealg.MaxLen", "strconv.ErrSyntax", "strconv.ErrRange", "internal/strconv.uint64pow10", "math/bits.deBruijn32tab", "math/bits.deBruijn64tab", "loop.example/intervalsandplaces/impl.everyOrder"], plainKeys := false, apart := false, laid := [("math/bits.deBruijn32tab", laid_math_bits_deBruijn32tab), ("math/bits.deBruijn64tab", laid_math_bits_deBruijn64tab), ("internal/strconv.uint64pow10", laid_internal_strconv_uint64pow10), ("unicode/utf8.acceptRanges", laid_unicode_utf8_acceptRanges), ("strconv.ErrRange", laid_strconv_ErrRange), ("strconv.ErrSyntax", laid_strconv_ErrSyntax), ("loop.example/intervalsandplaces/impl.everyOrder", laid_loop_example_intervalsandplaces_impl_everyOrder), ("unicode/utf8.first", laid_unicode_utf8_first)], narrowed := true }
def FnExactParsePointNetUptoSaid : Prop := fnExactParsePointNetUptoRow.holds Tryd.pinned (OpenSpec.upto fnExactParsePointNetSpec)

end Rows
end Go.Proofs.YtmdgkhebefnfeaaDoor
