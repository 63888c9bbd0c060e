/-
  NARROWER THAN 'FOR EVERY INPUT', by the rows' own cells (each row's printed sentence says how): FnExactIsEmptyNet: laid · FnExactIsAtomic: laid · FnExactNearlyConvexNet: laid · FnExactTriangleRel: laid · FnExactWhyTriangle: laid · FnExactIsClosed: laid · FnExactCloseNet: laid · FnExactClosesEmpty: laid · FnExactMeetNets: laid · FnExactWithinNet: laid · FnExactPartNet: laid.
  DERIVED. THE GIVEN ROWS OF THIS SEAT. 11 by the template 'for every input the law returns true; each argument reads behind the call as it read before'; 0 by the template 'total and deterministic' (their statements: YtlmmjdaipedjjaaDoorTotals.lean).
  GIVEN WITH THE SEED: the statements are not yours to turn. If you find one false, say at which input.
  Laid BY PROGRAM, IN A SANDBOX (cutbox-rows.mjs): the forced cells as the released guide's own fill.sh prints them over the translation 45288eac23f552dc… (all of the seat's roots in one cut). By AI agents, Wed Nov 11 2026. No macro, syntax, notation, axiom, sorry.
-/
import Derived.Test.YtlmmjdaipedjjaaDoorChecked
import GoSem.Claim
import GoSem.ClaimJoined
import GoSem.ClaimMapViews
import Derived.JoinedTies
import Derived.KernelRfl
namespace Go.Proofs.YtlmmjdaipedjjaaDoor
/- THE CELL 'sum', in the pinned program and in every row, IS THE sha256 OF THE DUMP (.gsa) THAT YtlmmjdaipedjjaaDoorProg.lean LOADS. Nothing in Lean hashes anything: it is a label: what it is worth is what the hold of that sum in a sandbox is worth. -/
noncomputable def Tryd.pinned : Pinned := { name := "ytlmmjdaipedjjaadoor", sum := "45288eac23f552dcd561246fc526d491d2295def57faa5f2c0b9ba9205711382", checked := Tryd.checked }
namespace Rows
def none {H : Type} : Left H := { results := [], args := [] }

/- WHAT THE LISTED PACKAGE-LEVEL VARIABLES READ AS WHEN THE CALL BEGINS. Each datum BY PROGRAM (the guide's laid-datum.mjs) off the statement by which the dump's own 'gosem.cut.vars' lays the variable. In a bare row this is a premise. The card (YtlmmjdaipedjjaaDoorCards.lean) ties it to the program's text. -/
def laid_loop_example_intervalsandplaces_impl_basicTable {H : Type} : DataW H := .agg [.agg [.lit (.string [98]), .lit (.int .i64 0), .lit (.int .i64 0)], .agg [.lit (.string [109]), .lit (.int .i64 0), .lit (.int .i64 1)], .agg [.lit (.string [111]), .lit (.int .i64 0), .lit (.int .i64 2)], .agg [.lit (.string [115]), .lit (.int .i64 1), .lit (.int .i64 2)], .agg [.lit (.string [100]), .lit (.int .i64 2), .lit (.int .i64 2)], .agg [.lit (.string [102]), .lit (.int .i64 2), .lit (.int .i64 3)], .agg [.lit (.string [101]), .lit (.int .i64 1), .lit (.int .i64 3)], .agg [.lit (.string [70]), .lit (.int .i64 0), .lit (.int .i64 3)], .agg [.lit (.string [68]), .lit (.int .i64 0), .lit (.int .i64 4)], .agg [.lit (.string [83]), .lit (.int .i64 1), .lit (.int .i64 4)], .agg [.lit (.string [79]), .lit (.int .i64 2), .lit (.int .i64 4)], .agg [.lit (.string [77]), .lit (.int .i64 3), .lit (.int .i64 4)], .agg [.lit (.string [66]), .lit (.int .i64 4), .lit (.int .i64 4)]]

/-- 'laws.FnExactIsEmptyNet': WHATEVER THE INPUT: true; the input reads as it did. -/
def fnExactIsEmptyNetSpec : ChangeSpec := { name := "fnExactIsEmptyNet", vars := ["loop.example/intervalsandplaces/impl.basicTable"], fn := fun _ => fun
  | [d, g1] => { results := [.lit (.bool true)], args := [d], vars := [g1] }
  | _ => none }
def fnExactIsEmptyNetRow : OpenClaim := { program := "ytlmmjdaipedjjaadoor", sum := "45288eac23f552dcd561246fc526d491d2295def57faa5f2c0b9ba9205711382", func := "loop.example/intervalsandplaces/laws.FnExactIsEmptyNet", spec := "fnExactIsEmptyNet", inPlace := ["internal/bytealg.IndexByteString"], unfollowed := true, recurses := true, named := ["loop.example/intervalsandplaces/impl.basicTable"], plainKeys := false, apart := false, laid := [("loop.example/intervalsandplaces/impl.basicTable", laid_loop_example_intervalsandplaces_impl_basicTable)] }
def FnExactIsEmptyNetSaid : Prop := fnExactIsEmptyNetRow.holds Tryd.pinned (OpenSpec.ofChange fnExactIsEmptyNetSpec)

/-- ITS FALSE NEIGHBOUR: 'it returns false'. Refute it at one input. -/
def fnExactIsEmptyNetWrong : ChangeSpec := { name := "fnExactIsEmptyNet", vars := ["loop.example/intervalsandplaces/impl.basicTable"], fn := fun _ => fun
  | [d, g1] => { results := [.lit (.bool false)], args := [d], vars := [g1] }
  | _ => none }
def FnExactIsEmptyNetWrongFalsely : Prop := fnExactIsEmptyNetRow.holds Tryd.pinned (OpenSpec.ofChange fnExactIsEmptyNetWrong)

/-- 'laws.FnExactIsAtomic': WHATEVER THE INPUT: true; the input reads as it did. -/
def fnExactIsAtomicSpec : ChangeSpec := { name := "fnExactIsAtomic", vars := ["loop.example/intervalsandplaces/impl.basicTable"], fn := fun _ => fun
  | [d, g1] => { results := [.lit (.bool true)], args := [d], vars := [g1] }
  | _ => none }
def fnExactIsAtomicRow : OpenClaim := { program := "ytlmmjdaipedjjaadoor", sum := "45288eac23f552dcd561246fc526d491d2295def57faa5f2c0b9ba9205711382", func := "loop.example/intervalsandplaces/laws.FnExactIsAtomic", spec := "fnExactIsAtomic", inPlace := ["internal/bytealg.IndexByteString"], unfollowed := true, recurses := true, named := ["loop.example/intervalsandplaces/impl.basicTable"], plainKeys := false, apart := false, laid := [("loop.example/intervalsandplaces/impl.basicTable", laid_loop_example_intervalsandplaces_impl_basicTable)] }
def FnExactIsAtomicSaid : Prop := fnExactIsAtomicRow.holds Tryd.pinned (OpenSpec.ofChange fnExactIsAtomicSpec)

/-- ITS FALSE NEIGHBOUR: 'it returns false'. Refute it at one input. -/
def fnExactIsAtomicWrong : ChangeSpec := { name := "fnExactIsAtomic", vars := ["loop.example/intervalsandplaces/impl.basicTable"], fn := fun _ => fun
  | [d, g1] => { results := [.lit (.bool false)], args := [d], vars := [g1] }
  | _ => none }
def FnExactIsAtomicWrongFalsely : Prop := fnExactIsAtomicRow.holds Tryd.pinned (OpenSpec.ofChange fnExactIsAtomicWrong)

/-- 'laws.FnExactNearlyConvexNet': WHATEVER THE INPUT: true; the input reads as it did. -/
def fnExactNearlyConvexNetSpec : ChangeSpec := { name := "fnExactNearlyConvexNet", vars := ["loop.example/intervalsandplaces/impl.basicTable"], fn := fun _ => fun
  | [d, g1] => { results := [.lit (.bool true)], args := [d], vars := [g1] }
  | _ => none }
def fnExactNearlyConvexNetRow : OpenClaim := { program := "ytlmmjdaipedjjaadoor", sum := "45288eac23f552dcd561246fc526d491d2295def57faa5f2c0b9ba9205711382", func := "loop.example/intervalsandplaces/laws.FnExactNearlyConvexNet", spec := "fnExactNearlyConvexNet", inPlace := ["internal/bytealg.IndexByteString"], unfollowed := true, recurses := true, named := ["loop.example/intervalsandplaces/impl.basicTable"], plainKeys := false, apart := false, laid := [("loop.example/intervalsandplaces/impl.basicTable", laid_loop_example_intervalsandplaces_impl_basicTable)] }
def FnExactNearlyConvexNetSaid : Prop := fnExactNearlyConvexNetRow.holds Tryd.pinned (OpenSpec.ofChange fnExactNearlyConvexNetSpec)

/-- ITS FALSE NEIGHBOUR: 'it returns false'. Refute it at one input. -/
def fnExactNearlyConvexNetWrong : ChangeSpec := { name := "fnExactNearlyConvexNet", vars := ["loop.example/intervalsandplaces/impl.basicTable"], fn := fun _ => fun
  | [d, g1] => { results := [.lit (.bool false)], args := [d], vars := [g1] }
  | _ => none }
def FnExactNearlyConvexNetWrongFalsely : Prop := fnExactNearlyConvexNetRow.holds Tryd.pinned (OpenSpec.ofChange fnExactNearlyConvexNetWrong)

/-- 'laws.FnExactTriangleRel': WHATEVER THE INPUT: true; the input reads as it did. -/
def fnExactTriangleRelSpec : ChangeSpec := { name := "fnExactTriangleRel", vars := ["loop.example/intervalsandplaces/impl.basicTable"], fn := fun _ => fun
  | [d1, d2, d3, d4, g1] => { results := [.lit (.bool true)], args := [d1, d2, d3, d4], vars := [g1] }
  | _ => none }
def fnExactTriangleRelRow : OpenClaim := { program := "ytlmmjdaipedjjaadoor", sum := "45288eac23f552dcd561246fc526d491d2295def57faa5f2c0b9ba9205711382", func := "loop.example/intervalsandplaces/laws.FnExactTriangleRel", spec := "fnExactTriangleRel", inPlace := ["internal/bytealg.IndexByteString"], unfollowed := true, recurses := true, named := ["loop.example/intervalsandplaces/impl.basicTable"], plainKeys := false, apart := false, laid := [("loop.example/intervalsandplaces/impl.basicTable", laid_loop_example_intervalsandplaces_impl_basicTable)] }
def FnExactTriangleRelSaid : Prop := fnExactTriangleRelRow.holds Tryd.pinned (OpenSpec.ofChange fnExactTriangleRelSpec)

/-- ITS FALSE NEIGHBOUR: 'it returns false'. Refute it at one input. -/
def fnExactTriangleRelWrong : ChangeSpec := { name := "fnExactTriangleRel", vars := ["loop.example/intervalsandplaces/impl.basicTable"], fn := fun _ => fun
  | [d1, d2, d3, d4, g1] => { results := [.lit (.bool false)], args := [d1, d2, d3, d4], vars := [g1] }
  | _ => none }
def FnExactTriangleRelWrongFalsely : Prop := fnExactTriangleRelRow.holds Tryd.pinned (OpenSpec.ofChange fnExactTriangleRelWrong)

/-- 'laws.FnExactWhyTriangle': WHATEVER THE INPUT: true; the input reads as it did. -/
def fnExactWhyTriangleSpec : ChangeSpec := { name := "fnExactWhyTriangle", vars := ["loop.example/intervalsandplaces/impl.basicTable"], fn := fun _ => fun
  | [d1, d2, d3, g1] => { results := [.lit (.bool true)], args := [d1, d2, d3], vars := [g1] }
  | _ => none }
def fnExactWhyTriangleRow : OpenClaim := { program := "ytlmmjdaipedjjaadoor", sum := "45288eac23f552dcd561246fc526d491d2295def57faa5f2c0b9ba9205711382", func := "loop.example/intervalsandplaces/laws.FnExactWhyTriangle", spec := "fnExactWhyTriangle", inPlace := ["internal/bytealg.IndexByteString"], unfollowed := true, recurses := true, named := ["loop.example/intervalsandplaces/impl.basicTable"], plainKeys := false, apart := false, laid := [("loop.example/intervalsandplaces/impl.basicTable", laid_loop_example_intervalsandplaces_impl_basicTable)] }
def FnExactWhyTriangleSaid : Prop := fnExactWhyTriangleRow.holds Tryd.pinned (OpenSpec.ofChange fnExactWhyTriangleSpec)

/-- ITS FALSE NEIGHBOUR: 'it returns false'. Refute it at one input. -/
def fnExactWhyTriangleWrong : ChangeSpec := { name := "fnExactWhyTriangle", vars := ["loop.example/intervalsandplaces/impl.basicTable"], fn := fun _ => fun
  | [d1, d2, d3, g1] => { results := [.lit (.bool false)], args := [d1, d2, d3], vars := [g1] }
  | _ => none }
def FnExactWhyTriangleWrongFalsely : Prop := fnExactWhyTriangleRow.holds Tryd.pinned (OpenSpec.ofChange fnExactWhyTriangleWrong)

/-- 'laws.FnExactIsClosed': WHATEVER THE INPUT: true; the input reads as it did. -/
def fnExactIsClosedSpec : ChangeSpec := { name := "fnExactIsClosed", vars := ["loop.example/intervalsandplaces/impl.basicTable"], fn := fun _ => fun
  | [d, g1] => { results := [.lit (.bool true)], args := [d], vars := [g1] }
  | _ => none }
def fnExactIsClosedRow : OpenClaim := { program := "ytlmmjdaipedjjaadoor", sum := "45288eac23f552dcd561246fc526d491d2295def57faa5f2c0b9ba9205711382", func := "loop.example/intervalsandplaces/laws.FnExactIsClosed", spec := "fnExactIsClosed", inPlace := ["internal/bytealg.IndexByteString"], unfollowed := true, recurses := true, named := ["loop.example/intervalsandplaces/impl.basicTable"], plainKeys := false, apart := false, laid := [("loop.example/intervalsandplaces/impl.basicTable", laid_loop_example_intervalsandplaces_impl_basicTable)] }
def FnExactIsClosedSaid : Prop := fnExactIsClosedRow.holds Tryd.pinned (OpenSpec.ofChange fnExactIsClosedSpec)

/-- ITS FALSE NEIGHBOUR: 'it returns false'. Refute it at one input. -/
def fnExactIsClosedWrong : ChangeSpec := { name := "fnExactIsClosed", vars := ["loop.example/intervalsandplaces/impl.basicTable"], fn := fun _ => fun
  | [d, g1] => { results := [.lit (.bool false)], args := [d], vars := [g1] }
  | _ => none }
def FnExactIsClosedWrongFalsely : Prop := fnExactIsClosedRow.holds Tryd.pinned (OpenSpec.ofChange fnExactIsClosedWrong)

/-- 'laws.FnExactCloseNet': WHATEVER THE INPUT: true; the input reads as it did. -/
def fnExactCloseNetSpec : ChangeSpec := { name := "fnExactCloseNet", vars := ["loop.example/intervalsandplaces/impl.basicTable"], fn := fun _ => fun
  | [d, g1] => { results := [.lit (.bool true)], args := [d], vars := [g1] }
  | _ => none }
def fnExactCloseNetRow : OpenClaim := { program := "ytlmmjdaipedjjaadoor", sum := "45288eac23f552dcd561246fc526d491d2295def57faa5f2c0b9ba9205711382", func := "loop.example/intervalsandplaces/laws.FnExactCloseNet", spec := "fnExactCloseNet", inPlace := ["internal/bytealg.IndexByteString", "internal/abi.NoEscape"], unfollowed := true, recurses := true, named := ["loop.example/intervalsandplaces/impl.basicTable"], plainKeys := false, apart := false, laid := [("loop.example/intervalsandplaces/impl.basicTable", laid_loop_example_intervalsandplaces_impl_basicTable)] }
def FnExactCloseNetSaid : Prop := fnExactCloseNetRow.holds Tryd.pinned (OpenSpec.ofChange fnExactCloseNetSpec)

/-- ITS FALSE NEIGHBOUR: 'it returns false'. Refute it at one input. -/
def fnExactCloseNetWrong : ChangeSpec := { name := "fnExactCloseNet", vars := ["loop.example/intervalsandplaces/impl.basicTable"], fn := fun _ => fun
  | [d, g1] => { results := [.lit (.bool false)], args := [d], vars := [g1] }
  | _ => none }
def FnExactCloseNetWrongFalsely : Prop := fnExactCloseNetRow.holds Tryd.pinned (OpenSpec.ofChange fnExactCloseNetWrong)

/-- 'laws.FnExactClosesEmpty': WHATEVER THE INPUT: true; the input reads as it did. -/
def fnExactClosesEmptySpec : ChangeSpec := { name := "fnExactClosesEmpty", vars := ["loop.example/intervalsandplaces/impl.basicTable"], fn := fun _ => fun
  | [d, g1] => { results := [.lit (.bool true)], args := [d], vars := [g1] }
  | _ => none }
def fnExactClosesEmptyRow : OpenClaim := { program := "ytlmmjdaipedjjaadoor", sum := "45288eac23f552dcd561246fc526d491d2295def57faa5f2c0b9ba9205711382", func := "loop.example/intervalsandplaces/laws.FnExactClosesEmpty", spec := "fnExactClosesEmpty", inPlace := ["internal/bytealg.IndexByteString"], unfollowed := true, recurses := true, named := ["loop.example/intervalsandplaces/impl.basicTable"], plainKeys := false, apart := false, laid := [("loop.example/intervalsandplaces/impl.basicTable", laid_loop_example_intervalsandplaces_impl_basicTable)] }
def FnExactClosesEmptySaid : Prop := fnExactClosesEmptyRow.holds Tryd.pinned (OpenSpec.ofChange fnExactClosesEmptySpec)

/-- ITS FALSE NEIGHBOUR: 'it returns false'. Refute it at one input. -/
def fnExactClosesEmptyWrong : ChangeSpec := { name := "fnExactClosesEmpty", vars := ["loop.example/intervalsandplaces/impl.basicTable"], fn := fun _ => fun
  | [d, g1] => { results := [.lit (.bool false)], args := [d], vars := [g1] }
  | _ => none }
def FnExactClosesEmptyWrongFalsely : Prop := fnExactClosesEmptyRow.holds Tryd.pinned (OpenSpec.ofChange fnExactClosesEmptyWrong)

/-- 'laws.FnExactMeetNets': WHATEVER THE INPUT: true; the input reads as it did. -/
def fnExactMeetNetsSpec : ChangeSpec := { name := "fnExactMeetNets", vars := ["loop.example/intervalsandplaces/impl.basicTable"], fn := fun _ => fun
  | [d1, d2, g1] => { results := [.lit (.bool true)], args := [d1, d2], vars := [g1] }
  | _ => none }
def fnExactMeetNetsRow : OpenClaim := { program := "ytlmmjdaipedjjaadoor", sum := "45288eac23f552dcd561246fc526d491d2295def57faa5f2c0b9ba9205711382", func := "loop.example/intervalsandplaces/laws.FnExactMeetNets", spec := "fnExactMeetNets", inPlace := ["internal/bytealg.IndexByteString", "internal/abi.NoEscape"], unfollowed := true, recurses := true, named := ["loop.example/intervalsandplaces/impl.basicTable"], plainKeys := false, apart := false, laid := [("loop.example/intervalsandplaces/impl.basicTable", laid_loop_example_intervalsandplaces_impl_basicTable)] }
def FnExactMeetNetsSaid : Prop := fnExactMeetNetsRow.holds Tryd.pinned (OpenSpec.ofChange fnExactMeetNetsSpec)

/-- ITS FALSE NEIGHBOUR: 'it returns false'. Refute it at one input. -/
def fnExactMeetNetsWrong : ChangeSpec := { name := "fnExactMeetNets", vars := ["loop.example/intervalsandplaces/impl.basicTable"], fn := fun _ => fun
  | [d1, d2, g1] => { results := [.lit (.bool false)], args := [d1, d2], vars := [g1] }
  | _ => none }
def FnExactMeetNetsWrongFalsely : Prop := fnExactMeetNetsRow.holds Tryd.pinned (OpenSpec.ofChange fnExactMeetNetsWrong)

/-- 'laws.FnExactWithinNet': WHATEVER THE INPUT: true; the input reads as it did. -/
def fnExactWithinNetSpec : ChangeSpec := { name := "fnExactWithinNet", vars := ["loop.example/intervalsandplaces/impl.basicTable"], fn := fun _ => fun
  | [d1, d2, g1] => { results := [.lit (.bool true)], args := [d1, d2], vars := [g1] }
  | _ => none }
def fnExactWithinNetRow : OpenClaim := { program := "ytlmmjdaipedjjaadoor", sum := "45288eac23f552dcd561246fc526d491d2295def57faa5f2c0b9ba9205711382", func := "loop.example/intervalsandplaces/laws.FnExactWithinNet", spec := "fnExactWithinNet", inPlace := ["internal/bytealg.IndexByteString"], unfollowed := true, recurses := true, named := ["loop.example/intervalsandplaces/impl.basicTable"], plainKeys := false, apart := false, laid := [("loop.example/intervalsandplaces/impl.basicTable", laid_loop_example_intervalsandplaces_impl_basicTable)] }
def FnExactWithinNetSaid : Prop := fnExactWithinNetRow.holds Tryd.pinned (OpenSpec.ofChange fnExactWithinNetSpec)

/-- ITS FALSE NEIGHBOUR: 'it returns false'. Refute it at one input. -/
def fnExactWithinNetWrong : ChangeSpec := { name := "fnExactWithinNet", vars := ["loop.example/intervalsandplaces/impl.basicTable"], fn := fun _ => fun
  | [d1, d2, g1] => { results := [.lit (.bool false)], args := [d1, d2], vars := [g1] }
  | _ => none }
def FnExactWithinNetWrongFalsely : Prop := fnExactWithinNetRow.holds Tryd.pinned (OpenSpec.ofChange fnExactWithinNetWrong)

/-- 'laws.FnExactPartNet': WHATEVER THE INPUT: true; the input reads as it did. -/
def fnExactPartNetSpec : ChangeSpec := { name := "fnExactPartNet", vars := ["loop.example/intervalsandplaces/impl.basicTable"], fn := fun _ => fun
  | [d1, d2, g1] => { results := [.lit (.bool true)], args := [d1, d2], vars := [g1] }
  | _ => none }
def fnExactPartNetRow : OpenClaim := { program := "ytlmmjdaipedjjaadoor", sum := "45288eac23f552dcd561246fc526d491d2295def57faa5f2c0b9ba9205711382", func := "loop.example/intervalsandplaces/laws.FnExactPartNet", spec := "fnExactPartNet", inPlace := ["internal/bytealg.IndexByteString", "internal/abi.NoEscape"], unfollowed := true, recurses := true, named := ["loop.example/intervalsandplaces/impl.basicTable"], plainKeys := false, apart := false, laid := [("loop.example/intervalsandplaces/impl.basicTable", laid_loop_example_intervalsandplaces_impl_basicTable)] }
def FnExactPartNetSaid : Prop := fnExactPartNetRow.holds Tryd.pinned (OpenSpec.ofChange fnExactPartNetSpec)

/-- ITS FALSE NEIGHBOUR: 'it returns false'. Refute it at one input. -/
def fnExactPartNetWrong : ChangeSpec := { name := "fnExactPartNet", vars := ["loop.example/intervalsandplaces/impl.basicTable"], fn := fun _ => fun
  | [d1, d2, g1] => { results := [.lit (.bool false)], args := [d1, d2], vars := [g1] }
  | _ => none }
def FnExactPartNetWrongFalsely : Prop := fnExactPartNetRow.holds Tryd.pinned (OpenSpec.ofChange fnExactPartNetWrong)

/- THE SECOND FORM. 'bulk': how many values and letters a reading holds, each counted each time it is reached (what is shared counts as often as it is met; a slice's spare places count too). A statement '..UptoSaid' is the law's where the arguments, and the package variables that the reading takes, are together of bulk at most 1048576: NARROWER than '..Said'. Prove '..Said' where nothing that the law and all that it calls make is longer than what came in: it says more and counts as full. Else prove '..UptoSaid'. A law counts once. -/
mutual
def uptoBulk {H : Type} : DataW H → Nat
  | .lit (.string bytes) => bytes.length + 1
  | .lit _ => 1
  | .nil => 1
  | .ptr d => uptoBulk d + 1
  | .slice elems spare => uptoBulkAll elems + uptoBulkAll spare + 1
  | .agg parts => uptoBulkAll parts + 1
  | .iface _ d => uptoBulk d + 1
  | .map entries => uptoBulkEntries entries + 1
  | .held _ => 1
def uptoBulkAll {H : Type} : List (DataW H) → Nat
  | [] => 0
  | d :: r => uptoBulk d + uptoBulkAll r
def uptoBulkEntries {H : Type} : List (Lit × DataW H) → Nat
  | [] => 0
  | x :: r => uptoBulkEntry x + uptoBulkEntries r
def uptoBulkEntry {H : Type} : Lit × DataW H → Nat
  | (.string bytes, d) => bytes.length + uptoBulk d + 1
  | (_, d) => uptoBulk d + 1
 end
def uptoSmall : (H : Type) → List (DataW H) → Bool := fun _ ds => decide (uptoBulkAll ds ≤ 1048576)
def OpenSpec.upto (s : _root_.Go.ChangeSpec) : _root_.Go.OpenSpec := { _root_.Go.OpenSpec.ofChange s with cond := some uptoSmall }

/-- 'laws.FnExactIsEmptyNet', WHERE WHAT IT READS IS OF BULK AT MOST 1048576: true; the input reads as it did. -/
def fnExactIsEmptyNetUptoRow : OpenClaim := { program := "ytlmmjdaipedjjaadoor", sum := "45288eac23f552dcd561246fc526d491d2295def57faa5f2c0b9ba9205711382", func := "loop.example/intervalsandplaces/laws.FnExactIsEmptyNet", spec := "fnExactIsEmptyNet", inPlace := ["internal/bytealg.IndexByteString"], unfollowed := true, recurses := true, named := ["loop.example/intervalsandplaces/impl.basicTable"], plainKeys := false, apart := false, laid := [("loop.example/intervalsandplaces/impl.basicTable", laid_loop_example_intervalsandplaces_impl_basicTable)], narrowed := true }
def FnExactIsEmptyNetUptoSaid : Prop := fnExactIsEmptyNetUptoRow.holds Tryd.pinned (OpenSpec.upto fnExactIsEmptyNetSpec)

/-- 'laws.FnExactIsAtomic', WHERE WHAT IT READS IS OF BULK AT MOST 1048576: true; the input reads as it did. -/
def fnExactIsAtomicUptoRow : OpenClaim := { program := "ytlmmjdaipedjjaadoor", sum := "45288eac23f552dcd561246fc526d491d2295def57faa5f2c0b9ba9205711382", func := "loop.example/intervalsandplaces/laws.FnExactIsAtomic", spec := "fnExactIsAtomic", inPlace := ["internal/bytealg.IndexByteString"], unfollowed := true, recurses := true, named := ["loop.example/intervalsandplaces/impl.basicTable"], plainKeys := false, apart := false, laid := [("loop.example/intervalsandplaces/impl.basicTable", laid_loop_example_intervalsandplaces_impl_basicTable)], narrowed := true }
def FnExactIsAtomicUptoSaid : Prop := fnExactIsAtomicUptoRow.holds Tryd.pinned (OpenSpec.upto fnExactIsAtomicSpec)

/-- 'laws.FnExactNearlyConvexNet', WHERE WHAT IT READS IS OF BULK AT MOST 1048576: true; the input reads as it did. -/
def fnExactNearlyConvexNetUptoRow : OpenClaim := { program := "ytlmmjdaipedjjaadoor", sum := "45288eac23f552dcd561246fc526d491d2295def57faa5f2c0b9ba9205711382", func := "loop.example/intervalsandplaces/laws.FnExactNearlyConvexNet", spec := "fnExactNearlyConvexNet", inPlace := ["internal/bytealg.IndexByteString"], unfollowed := true, recurses := true, named := ["loop.example/intervalsandplaces/impl.basicTable"], plainKeys := false, apart := false, laid := [("loop.example/intervalsandplaces/impl.basicTable", laid_loop_example_intervalsandplaces_impl_basicTable)], narrowed := true }
def FnExactNearlyConvexNetUptoSaid : Prop := fnExactNearlyConvexNetUptoRow.holds Tryd.pinned (OpenSpec.upto fnExactNearlyConvexNetSpec)

/-- 'laws.FnExactTriangleRel', WHERE WHAT IT READS IS OF BULK AT MOST 1048576: true; the input reads as it did. -/
def fnExactTriangleRelUptoRow : OpenClaim := { program := "ytlmmjdaipedjjaadoor", sum := "45288eac23f552dcd561246fc526d491d2295def57faa5f2c0b9ba9205711382", func := "loop.example/intervalsandplaces/laws.FnExactTriangleRel", spec := "fnExactTriangleRel", inPlace := ["internal/bytealg.IndexByteString"], unfollowed := true, recurses := true, named := ["loop.example/intervalsandplaces/impl.basicTable"], plainKeys := false, apart := false, laid := [("loop.example/intervalsandplaces/impl.basicTable", laid_loop_example_intervalsandplaces_impl_basicTable)], narrowed := true }
def FnExactTriangleRelUptoSaid : Prop := fnExactTriangleRelUptoRow.holds Tryd.pinned (OpenSpec.upto fnExactTriangleRelSpec)

/-- 'laws.FnExactWhyTriangle', WHERE WHAT IT READS IS OF BULK AT MOST 1048576: true; the input reads as it did. -/
def fnExactWhyTriangleUptoRow : OpenClaim := { program := "ytlmmjdaipedjjaadoor", sum := "45288eac23f552dcd561246fc526d491d2295def57faa5f2c0b9ba9205711382", func := "loop.example/intervalsandplaces/laws.FnExactWhyTriangle", spec := "fnExactWhyTriangle", inPlace := ["internal/bytealg.IndexByteString"], unfollowed := true, recurses := true, named := ["loop.example/intervalsandplaces/impl.basicTable"], plainKeys := false, apart := false, laid := [("loop.example/intervalsandplaces/impl.basicTable", laid_loop_example_intervalsandplaces_impl_basicTable)], narrowed := true }
def FnExactWhyTriangleUptoSaid : Prop := fnExactWhyTriangleUptoRow.holds Tryd.pinned (OpenSpec.upto fnExactWhyTriangleSpec)

/-- 'laws.FnExactIsClosed', WHERE WHAT IT READS IS OF BULK AT MOST 1048576: true; the input reads as it did. -/
def fnExactIsClosedUptoRow : OpenClaim := { program := "ytlmmjdaipedjjaadoor", sum := "45288eac23f552dcd561246fc526d491d2295def57faa5f2c0b9ba9205711382", func := "loop.example/intervalsandplaces/laws.FnExactIsClosed", spec := "fnExactIsClosed", inPlace := ["internal/bytealg.IndexByteString"], unfollowed := true, recurses := true, named := ["loop.example/intervalsandplaces/impl.basicTable"], plainKeys := false, apart := false, laid := [("loop.example/intervalsandplaces/impl.basicTable", laid_loop_example_intervalsandplaces_impl_basicTable)], narrowed := true }
def FnExactIsClosedUptoSaid : Prop := fnExactIsClosedUptoRow.holds Tryd.pinned (OpenSpec.upto fnExactIsClosedSpec)

/-- 'laws.FnExactCloseNet', WHERE WHAT IT READS IS OF BULK AT MOST 1048576: true; the input reads as it did. -/
def fnExactCloseNetUptoRow : OpenClaim := { program := "ytlmmjdaipedjjaadoor", sum := "45288eac23f552dcd561246fc526d491d2295def57faa5f2c0b9ba9205711382", func := "loop.example/intervalsandplaces/laws.FnExactCloseNet", spec := "fnExactCloseNet", inPlace := ["internal/bytealg.IndexByteString", "internal/abi.NoEscape"], unfollowed := true, recurses := true, named := ["loop.example/intervalsandplaces/impl.basicTable"], plainKeys := false, apart := false, laid := [("loop.example/intervalsandplaces/impl.basicTable", laid_loop_example_intervalsandplaces_impl_basicTable)], narrowed := true }
def FnExactCloseNetUptoSaid : Prop := fnExactCloseNetUptoRow.holds Tryd.pinned (OpenSpec.upto fnExactCloseNetSpec)

/-- 'laws.FnExactClosesEmpty', WHERE WHAT IT READS IS OF BULK AT MOST 1048576: true; the input reads as it did. -/
def fnExactClosesEmptyUptoRow : OpenClaim := { program := "ytlmmjdaipedjjaadoor", sum := "45288eac23f552dcd561246fc526d491d2295def57faa5f2c0b9ba9205711382", func := "loop.example/intervalsandplaces/laws.FnExactClosesEmpty", spec := "fnExactClosesEmpty", inPlace := ["internal/bytealg.IndexByteString"], unfollowed := true, recurses := true, named := ["loop.example/intervalsandplaces/impl.basicTable"], plainKeys := false, apart := false, laid := [("loop.example/intervalsandplaces/impl.basicTable", laid_loop_example_intervalsandplaces_impl_basicTable)], narrowed := true }
def FnExactClosesEmptyUptoSaid : Prop := fnExactClosesEmptyUptoRow.holds Tryd.pinned (OpenSpec.upto fnExactClosesEmptySpec)

/-- 'laws.FnExactMeetNets', WHERE WHAT IT READS IS OF BULK AT MOST 1048576: true; the input reads as it did. -/
def fnExactMeetNetsUptoRow : OpenClaim := { program := "ytlmmjdaipedjjaadoor", sum := "45288eac23f552dcd561246fc526d491d2295def57faa5f2c0b9ba9205711382", func := "loop.example/intervalsandplaces/laws.FnExactMeetNets", spec := "fnExactMeetNets", inPlace := ["internal/bytealg.IndexByteString", "internal/abi.NoEscape"], unfollowed := true, recurses := true, named := ["loop.example/intervalsandplaces/impl.basicTable"], plainKeys := false, apart := false, laid := [("loop.example/intervalsandplaces/impl.basicTable", laid_loop_example_intervalsandplaces_impl_basicTable)], narrowed := true }
def FnExactMeetNetsUptoSaid : Prop := fnExactMeetNetsUptoRow.holds Tryd.pinned (OpenSpec.upto fnExactMeetNetsSpec)

/-- 'laws.FnExactWithinNet', WHERE WHAT IT READS IS OF BULK AT MOST 1048576: true; the input reads as it did. -/
def fnExactWithinNetUptoRow : OpenClaim := { program := "ytlmmjdaipedjjaadoor", sum := "45288eac23f552dcd561246fc526d491d2295def57faa5f2c0b9ba9205711382", func := "loop.example/intervalsandplaces/laws.FnExactWithinNet", spec := "fnExactWithinNet", inPlace := ["internal/bytealg.IndexByteString"], unfollowed := true, recurses := true, named := ["loop.example/intervalsandplaces/impl.basicTable"], plainKeys := false, apart := false, laid := [("loop.example/intervalsandplaces/impl.basicTable", laid_loop_example_intervalsandplaces_impl_basicTable)], narrowed := true }
def FnExactWithinNetUptoSaid : Prop := fnExactWithinNetUptoRow.holds Tryd.pinned (OpenSpec.upto fnExactWithinNetSpec)

/-- 'laws.FnExactPartNet', WHERE WHAT IT READS IS OF BULK AT MOST 1048576: true; the input reads as it did. -/
def fnExactPartNetUptoRow : OpenClaim := { program := "ytlmmjdaipedjjaadoor", sum := "45288eac23f552dcd561246fc526d491d2295def57faa5f2c0b9ba9205711382", func := "loop.example/intervalsandplaces/laws.FnExactPartNet", spec := "fnExactPartNet", inPlace := ["internal/bytealg.IndexByteString", "internal/abi.NoEscape"], unfollowed := true, recurses := true, named := ["loop.example/intervalsandplaces/impl.basicTable"], plainKeys := false, apart := false, laid := [("loop.example/intervalsandplaces/impl.basicTable", laid_loop_example_intervalsandplaces_impl_basicTable)], narrowed := true }
def FnExactPartNetUptoSaid : Prop := fnExactPartNetUptoRow.holds Tryd.pinned (OpenSpec.upto fnExactPartNetSpec)

end Rows
end Go.Proofs.YtlmmjdaipedjjaaDoor
