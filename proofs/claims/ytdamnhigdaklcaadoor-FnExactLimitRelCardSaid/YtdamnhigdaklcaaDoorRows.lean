/-
  NARROWER THAN 'FOR EVERY INPUT', by the rows' own cells (each row's printed sentence says how): FnExactNetValid: laid · FnExactRelIn: laid · FnExactPutRel: laid · FnExactLimitRel: laid · FnExactPartNet: laid · FnExactMeetNets: laid · FnExactWithinNet: laid · FnExactMirrorNet: laid · FnExactCountChoices: laid · FnExactNetOf: laid · FnExactNetHolds: laid.
  DERIVED. THE GIVEN ROWS OF THIS SEAT. 11 by the template 'for every input the law returns true; each argument reads behind the call as it read before'; 0 by the template 'total and deterministic' (their statements: YtdamnhigdaklcaaDoorTotals.lean).
  GIVEN WITH THE SEED: the statements are not yours to turn. If you find one false, say at which input.
  Laid BY PROGRAM, IN A SANDBOX (cutbox-rows.mjs): the forced cells as the released guide's own fill.sh prints them over the translation c645cedaf633f2e5… (all of the seat's roots in one cut). By AI agents, Wed Nov 11 2026. No macro, syntax, notation, axiom, sorry.
-/
import Derived.Test.YtdamnhigdaklcaaDoorChecked
import GoSem.Claim
import GoSem.ClaimJoined
import GoSem.ClaimMapViews
import Derived.JoinedTies
import Derived.KernelRfl
namespace Go.Proofs.YtdamnhigdaklcaaDoor
/- THE CELL 'sum', in the pinned program and in every row, IS THE sha256 OF THE DUMP (.gsa) THAT YtdamnhigdaklcaaDoorProg.lean LOADS. Nothing in Lean hashes anything: it is a label: what it is worth is what the hold of that sum in a sandbox is worth. -/
noncomputable def Tryd.pinned : Pinned := { name := "ytdamnhigdaklcaadoor", sum := "c645cedaf633f2e58304140c1f450ba4e8aaa3f794ef37bbf3921fa8f7273092", checked := Tryd.checked }
namespace Rows
def none {H : Type} : Left H := { results := [], args := [] }

/- WHAT THE LISTED PACKAGE-LEVEL VARIABLES READ AS WHEN THE CALL BEGINS. Each datum BY PROGRAM (the guide's laid-datum.mjs) off the statement by which the dump's own 'gosem.cut.vars' lays the variable. In a bare row this is a premise. The card (YtdamnhigdaklcaaDoorCards.lean) ties it to the program's text. -/
def laid_loop_example_intervalsandplaces_impl_basicTable {H : Type} : DataW H := .agg [.agg [.lit (.string [98]), .lit (.int .i64 0), .lit (.int .i64 0)], .agg [.lit (.string [109]), .lit (.int .i64 0), .lit (.int .i64 1)], .agg [.lit (.string [111]), .lit (.int .i64 0), .lit (.int .i64 2)], .agg [.lit (.string [115]), .lit (.int .i64 1), .lit (.int .i64 2)], .agg [.lit (.string [100]), .lit (.int .i64 2), .lit (.int .i64 2)], .agg [.lit (.string [102]), .lit (.int .i64 2), .lit (.int .i64 3)], .agg [.lit (.string [101]), .lit (.int .i64 1), .lit (.int .i64 3)], .agg [.lit (.string [70]), .lit (.int .i64 0), .lit (.int .i64 3)], .agg [.lit (.string [68]), .lit (.int .i64 0), .lit (.int .i64 4)], .agg [.lit (.string [83]), .lit (.int .i64 1), .lit (.int .i64 4)], .agg [.lit (.string [79]), .lit (.int .i64 2), .lit (.int .i64 4)], .agg [.lit (.string [77]), .lit (.int .i64 3), .lit (.int .i64 4)], .agg [.lit (.string [66]), .lit (.int .i64 4), .lit (.int .i64 4)]]

/-- 'laws.FnExactNetValid': WHATEVER THE INPUT: true; the input reads as it did. -/
def fnExactNetValidSpec : ChangeSpec := { name := "fnExactNetValid", vars := ["loop.example/intervalsandplaces/impl.basicTable"], fn := fun _ => fun
  | [d, g1] => { results := [.lit (.bool true)], args := [d], vars := [g1] }
  | _ => none }
def fnExactNetValidRow : OpenClaim := { program := "ytdamnhigdaklcaadoor", sum := "c645cedaf633f2e58304140c1f450ba4e8aaa3f794ef37bbf3921fa8f7273092", func := "loop.example/intervalsandplaces/laws.FnExactNetValid", spec := "fnExactNetValid", inPlace := ["internal/bytealg.IndexByteString"], unfollowed := true, recurses := true, named := ["loop.example/intervalsandplaces/impl.basicTable"], apart := false, laid := [("loop.example/intervalsandplaces/impl.basicTable", laid_loop_example_intervalsandplaces_impl_basicTable)] }
def FnExactNetValidSaid : Prop := fnExactNetValidRow.holds Tryd.pinned (OpenSpec.ofChange fnExactNetValidSpec)

/-- ITS FALSE NEIGHBOUR: 'it returns false'. Refute it at one input. -/
def fnExactNetValidWrong : ChangeSpec := { name := "fnExactNetValid", vars := ["loop.example/intervalsandplaces/impl.basicTable"], fn := fun _ => fun
  | [d, g1] => { results := [.lit (.bool false)], args := [d], vars := [g1] }
  | _ => none }
def FnExactNetValidWrongFalsely : Prop := fnExactNetValidRow.holds Tryd.pinned (OpenSpec.ofChange fnExactNetValidWrong)

/-- 'laws.FnExactRelIn': WHATEVER THE INPUT: true; the input reads as it did. -/
def fnExactRelInSpec : ChangeSpec := { name := "fnExactRelIn", vars := ["loop.example/intervalsandplaces/impl.basicTable"], fn := fun _ => fun
  | [d1, d2, d3, g1] => { results := [.lit (.bool true)], args := [d1, d2, d3], vars := [g1] }
  | _ => none }
def fnExactRelInRow : OpenClaim := { program := "ytdamnhigdaklcaadoor", sum := "c645cedaf633f2e58304140c1f450ba4e8aaa3f794ef37bbf3921fa8f7273092", func := "loop.example/intervalsandplaces/laws.FnExactRelIn", spec := "fnExactRelIn", inPlace := ["internal/bytealg.IndexByteString"], unfollowed := true, recurses := true, named := ["loop.example/intervalsandplaces/impl.basicTable"], apart := false, laid := [("loop.example/intervalsandplaces/impl.basicTable", laid_loop_example_intervalsandplaces_impl_basicTable)] }
def FnExactRelInSaid : Prop := fnExactRelInRow.holds Tryd.pinned (OpenSpec.ofChange fnExactRelInSpec)

/-- ITS FALSE NEIGHBOUR: 'it returns false'. Refute it at one input. -/
def fnExactRelInWrong : ChangeSpec := { name := "fnExactRelIn", vars := ["loop.example/intervalsandplaces/impl.basicTable"], fn := fun _ => fun
  | [d1, d2, d3, g1] => { results := [.lit (.bool false)], args := [d1, d2, d3], vars := [g1] }
  | _ => none }
def FnExactRelInWrongFalsely : Prop := fnExactRelInRow.holds Tryd.pinned (OpenSpec.ofChange fnExactRelInWrong)

/-- 'laws.FnExactPutRel': WHATEVER THE INPUT: true; the input reads as it did. -/
def fnExactPutRelSpec : ChangeSpec := { name := "fnExactPutRel", vars := ["loop.example/intervalsandplaces/impl.basicTable"], fn := fun _ => fun
  | [d1, d2, d3, d4, g1] => { results := [.lit (.bool true)], args := [d1, d2, d3, d4], vars := [g1] }
  | _ => none }
def fnExactPutRelRow : OpenClaim := { program := "ytdamnhigdaklcaadoor", sum := "c645cedaf633f2e58304140c1f450ba4e8aaa3f794ef37bbf3921fa8f7273092", func := "loop.example/intervalsandplaces/laws.FnExactPutRel", spec := "fnExactPutRel", inPlace := ["internal/bytealg.IndexByteString", "internal/abi.NoEscape"], unfollowed := true, recurses := true, named := ["loop.example/intervalsandplaces/impl.basicTable"], apart := false, laid := [("loop.example/intervalsandplaces/impl.basicTable", laid_loop_example_intervalsandplaces_impl_basicTable)] }
def FnExactPutRelSaid : Prop := fnExactPutRelRow.holds Tryd.pinned (OpenSpec.ofChange fnExactPutRelSpec)

/-- ITS FALSE NEIGHBOUR: 'it returns false'. Refute it at one input. -/
def fnExactPutRelWrong : ChangeSpec := { name := "fnExactPutRel", vars := ["loop.example/intervalsandplaces/impl.basicTable"], fn := fun _ => fun
  | [d1, d2, d3, d4, g1] => { results := [.lit (.bool false)], args := [d1, d2, d3, d4], vars := [g1] }
  | _ => none }
def FnExactPutRelWrongFalsely : Prop := fnExactPutRelRow.holds Tryd.pinned (OpenSpec.ofChange fnExactPutRelWrong)

/-- 'laws.FnExactLimitRel': WHATEVER THE INPUT: true; the input reads as it did. -/
def fnExactLimitRelSpec : ChangeSpec := { name := "fnExactLimitRel", vars := ["loop.example/intervalsandplaces/impl.basicTable"], fn := fun _ => fun
  | [d1, d2, d3, d4, g1] => { results := [.lit (.bool true)], args := [d1, d2, d3, d4], vars := [g1] }
  | _ => none }
def fnExactLimitRelRow : OpenClaim := { program := "ytdamnhigdaklcaadoor", sum := "c645cedaf633f2e58304140c1f450ba4e8aaa3f794ef37bbf3921fa8f7273092", func := "loop.example/intervalsandplaces/laws.FnExactLimitRel", spec := "fnExactLimitRel", inPlace := ["internal/bytealg.IndexByteString", "internal/abi.NoEscape"], unfollowed := true, recurses := true, named := ["loop.example/intervalsandplaces/impl.basicTable"], apart := false, laid := [("loop.example/intervalsandplaces/impl.basicTable", laid_loop_example_intervalsandplaces_impl_basicTable)] }
def FnExactLimitRelSaid : Prop := fnExactLimitRelRow.holds Tryd.pinned (OpenSpec.ofChange fnExactLimitRelSpec)

/-- ITS FALSE NEIGHBOUR: 'it returns false'. Refute it at one input. -/
def fnExactLimitRelWrong : ChangeSpec := { name := "fnExactLimitRel", vars := ["loop.example/intervalsandplaces/impl.basicTable"], fn := fun _ => fun
  | [d1, d2, d3, d4, g1] => { results := [.lit (.bool false)], args := [d1, d2, d3, d4], vars := [g1] }
  | _ => none }
def FnExactLimitRelWrongFalsely : Prop := fnExactLimitRelRow.holds Tryd.pinned (OpenSpec.ofChange fnExactLimitRelWrong)

/-- 'laws.FnExactPartNet': WHATEVER THE INPUT: true; the input reads as it did. -/
def fnExactPartNetSpec : ChangeSpec := { name := "fnExactPartNet", vars := ["loop.example/intervalsandplaces/impl.basicTable"], fn := fun _ => fun
  | [d1, d2, g1] => { results := [.lit (.bool true)], args := [d1, d2], vars := [g1] }
  | _ => none }
def fnExactPartNetRow : OpenClaim := { program := "ytdamnhigdaklcaadoor", sum := "c645cedaf633f2e58304140c1f450ba4e8aaa3f794ef37bbf3921fa8f7273092", func := "loop.example/intervalsandplaces/laws.FnExactPartNet", spec := "fnExactPartNet", inPlace := ["internal/bytealg.IndexByteString", "internal/abi.NoEscape"], unfollowed := true, recurses := true, named := ["loop.example/intervalsandplaces/impl.basicTable"], apart := false, laid := [("loop.example/intervalsandplaces/impl.basicTable", laid_loop_example_intervalsandplaces_impl_basicTable)] }
def FnExactPartNetSaid : Prop := fnExactPartNetRow.holds Tryd.pinned (OpenSpec.ofChange fnExactPartNetSpec)

/-- ITS FALSE NEIGHBOUR: 'it returns false'. Refute it at one input. -/
def fnExactPartNetWrong : ChangeSpec := { name := "fnExactPartNet", vars := ["loop.example/intervalsandplaces/impl.basicTable"], fn := fun _ => fun
  | [d1, d2, g1] => { results := [.lit (.bool false)], args := [d1, d2], vars := [g1] }
  | _ => none }
def FnExactPartNetWrongFalsely : Prop := fnExactPartNetRow.holds Tryd.pinned (OpenSpec.ofChange fnExactPartNetWrong)

/-- 'laws.FnExactMeetNets': WHATEVER THE INPUT: true; the input reads as it did. -/
def fnExactMeetNetsSpec : ChangeSpec := { name := "fnExactMeetNets", vars := ["loop.example/intervalsandplaces/impl.basicTable"], fn := fun _ => fun
  | [d1, d2, g1] => { results := [.lit (.bool true)], args := [d1, d2], vars := [g1] }
  | _ => none }
def fnExactMeetNetsRow : OpenClaim := { program := "ytdamnhigdaklcaadoor", sum := "c645cedaf633f2e58304140c1f450ba4e8aaa3f794ef37bbf3921fa8f7273092", func := "loop.example/intervalsandplaces/laws.FnExactMeetNets", spec := "fnExactMeetNets", inPlace := ["internal/bytealg.IndexByteString", "internal/abi.NoEscape"], unfollowed := true, recurses := true, named := ["loop.example/intervalsandplaces/impl.basicTable"], apart := false, laid := [("loop.example/intervalsandplaces/impl.basicTable", laid_loop_example_intervalsandplaces_impl_basicTable)] }
def FnExactMeetNetsSaid : Prop := fnExactMeetNetsRow.holds Tryd.pinned (OpenSpec.ofChange fnExactMeetNetsSpec)

/-- ITS FALSE NEIGHBOUR: 'it returns false'. Refute it at one input. -/
def fnExactMeetNetsWrong : ChangeSpec := { name := "fnExactMeetNets", vars := ["loop.example/intervalsandplaces/impl.basicTable"], fn := fun _ => fun
  | [d1, d2, g1] => { results := [.lit (.bool false)], args := [d1, d2], vars := [g1] }
  | _ => none }
def FnExactMeetNetsWrongFalsely : Prop := fnExactMeetNetsRow.holds Tryd.pinned (OpenSpec.ofChange fnExactMeetNetsWrong)

/-- 'laws.FnExactWithinNet': WHATEVER THE INPUT: true; the input reads as it did. -/
def fnExactWithinNetSpec : ChangeSpec := { name := "fnExactWithinNet", vars := ["loop.example/intervalsandplaces/impl.basicTable"], fn := fun _ => fun
  | [d1, d2, g1] => { results := [.lit (.bool true)], args := [d1, d2], vars := [g1] }
  | _ => none }
def fnExactWithinNetRow : OpenClaim := { program := "ytdamnhigdaklcaadoor", sum := "c645cedaf633f2e58304140c1f450ba4e8aaa3f794ef37bbf3921fa8f7273092", func := "loop.example/intervalsandplaces/laws.FnExactWithinNet", spec := "fnExactWithinNet", inPlace := ["internal/bytealg.IndexByteString"], unfollowed := true, recurses := true, named := ["loop.example/intervalsandplaces/impl.basicTable"], apart := false, laid := [("loop.example/intervalsandplaces/impl.basicTable", laid_loop_example_intervalsandplaces_impl_basicTable)] }
def FnExactWithinNetSaid : Prop := fnExactWithinNetRow.holds Tryd.pinned (OpenSpec.ofChange fnExactWithinNetSpec)

/-- ITS FALSE NEIGHBOUR: 'it returns false'. Refute it at one input. -/
def fnExactWithinNetWrong : ChangeSpec := { name := "fnExactWithinNet", vars := ["loop.example/intervalsandplaces/impl.basicTable"], fn := fun _ => fun
  | [d1, d2, g1] => { results := [.lit (.bool false)], args := [d1, d2], vars := [g1] }
  | _ => none }
def FnExactWithinNetWrongFalsely : Prop := fnExactWithinNetRow.holds Tryd.pinned (OpenSpec.ofChange fnExactWithinNetWrong)

/-- 'laws.FnExactMirrorNet': WHATEVER THE INPUT: true; the input reads as it did. -/
def fnExactMirrorNetSpec : ChangeSpec := { name := "fnExactMirrorNet", vars := ["loop.example/intervalsandplaces/impl.basicTable"], fn := fun _ => fun
  | [d, g1] => { results := [.lit (.bool true)], args := [d], vars := [g1] }
  | _ => none }
def fnExactMirrorNetRow : OpenClaim := { program := "ytdamnhigdaklcaadoor", sum := "c645cedaf633f2e58304140c1f450ba4e8aaa3f794ef37bbf3921fa8f7273092", func := "loop.example/intervalsandplaces/laws.FnExactMirrorNet", spec := "fnExactMirrorNet", inPlace := ["internal/bytealg.IndexByteString", "internal/abi.NoEscape"], unfollowed := true, recurses := true, named := ["loop.example/intervalsandplaces/impl.basicTable"], apart := false, laid := [("loop.example/intervalsandplaces/impl.basicTable", laid_loop_example_intervalsandplaces_impl_basicTable)] }
def FnExactMirrorNetSaid : Prop := fnExactMirrorNetRow.holds Tryd.pinned (OpenSpec.ofChange fnExactMirrorNetSpec)

/-- ITS FALSE NEIGHBOUR: 'it returns false'. Refute it at one input. -/
def fnExactMirrorNetWrong : ChangeSpec := { name := "fnExactMirrorNet", vars := ["loop.example/intervalsandplaces/impl.basicTable"], fn := fun _ => fun
  | [d, g1] => { results := [.lit (.bool false)], args := [d], vars := [g1] }
  | _ => none }
def FnExactMirrorNetWrongFalsely : Prop := fnExactMirrorNetRow.holds Tryd.pinned (OpenSpec.ofChange fnExactMirrorNetWrong)

/-- 'laws.FnExactCountChoices': WHATEVER THE INPUT: true; the input reads as it did. -/
def fnExactCountChoicesSpec : ChangeSpec := { name := "fnExactCountChoices", vars := ["loop.example/intervalsandplaces/impl.basicTable"], fn := fun _ => fun
  | [d, g1] => { results := [.lit (.bool true)], args := [d], vars := [g1] }
  | _ => none }
def fnExactCountChoicesRow : OpenClaim := { program := "ytdamnhigdaklcaadoor", sum := "c645cedaf633f2e58304140c1f450ba4e8aaa3f794ef37bbf3921fa8f7273092", func := "loop.example/intervalsandplaces/laws.FnExactCountChoices", spec := "fnExactCountChoices", inPlace := ["internal/bytealg.IndexByteString"], unfollowed := true, recurses := true, named := ["loop.example/intervalsandplaces/impl.basicTable"], apart := false, laid := [("loop.example/intervalsandplaces/impl.basicTable", laid_loop_example_intervalsandplaces_impl_basicTable)] }
def FnExactCountChoicesSaid : Prop := fnExactCountChoicesRow.holds Tryd.pinned (OpenSpec.ofChange fnExactCountChoicesSpec)

/-- ITS FALSE NEIGHBOUR: 'it returns false'. Refute it at one input. -/
def fnExactCountChoicesWrong : ChangeSpec := { name := "fnExactCountChoices", vars := ["loop.example/intervalsandplaces/impl.basicTable"], fn := fun _ => fun
  | [d, g1] => { results := [.lit (.bool false)], args := [d], vars := [g1] }
  | _ => none }
def FnExactCountChoicesWrongFalsely : Prop := fnExactCountChoicesRow.holds Tryd.pinned (OpenSpec.ofChange fnExactCountChoicesWrong)

/-- 'laws.FnExactNetOf': WHATEVER THE INPUT: true; the input reads as it did. -/
def fnExactNetOfSpec : ChangeSpec := { name := "fnExactNetOf", vars := ["loop.example/intervalsandplaces/impl.basicTable"], fn := fun _ => fun
  | [d, g1] => { results := [.lit (.bool true)], args := [d], vars := [g1] }
  | _ => none }
def fnExactNetOfRow : OpenClaim := { program := "ytdamnhigdaklcaadoor", sum := "c645cedaf633f2e58304140c1f450ba4e8aaa3f794ef37bbf3921fa8f7273092", func := "loop.example/intervalsandplaces/laws.FnExactNetOf", spec := "fnExactNetOf", inPlace := ["internal/abi.NoEscape"], unfollowed := true, recurses := true, named := ["loop.example/intervalsandplaces/impl.basicTable"], apart := false, laid := [("loop.example/intervalsandplaces/impl.basicTable", laid_loop_example_intervalsandplaces_impl_basicTable)] }
def FnExactNetOfSaid : Prop := fnExactNetOfRow.holds Tryd.pinned (OpenSpec.ofChange fnExactNetOfSpec)

/-- ITS FALSE NEIGHBOUR: 'it returns false'. Refute it at one input. -/
def fnExactNetOfWrong : ChangeSpec := { name := "fnExactNetOf", vars := ["loop.example/intervalsandplaces/impl.basicTable"], fn := fun _ => fun
  | [d, g1] => { results := [.lit (.bool false)], args := [d], vars := [g1] }
  | _ => none }
def FnExactNetOfWrongFalsely : Prop := fnExactNetOfRow.holds Tryd.pinned (OpenSpec.ofChange fnExactNetOfWrong)

/-- 'laws.FnExactNetHolds': WHATEVER THE INPUT: true; the input reads as it did. -/
def fnExactNetHoldsSpec : ChangeSpec := { name := "fnExactNetHolds", vars := ["loop.example/intervalsandplaces/impl.basicTable"], fn := fun _ => fun
  | [d1, d2, g1] => { results := [.lit (.bool true)], args := [d1, d2], vars := [g1] }
  | _ => none }
def fnExactNetHoldsRow : OpenClaim := { program := "ytdamnhigdaklcaadoor", sum := "c645cedaf633f2e58304140c1f450ba4e8aaa3f794ef37bbf3921fa8f7273092", func := "loop.example/intervalsandplaces/laws.FnExactNetHolds", spec := "fnExactNetHolds", inPlace := ["internal/abi.NoEscape", "internal/bytealg.IndexByteString"], unfollowed := true, recurses := true, named := ["loop.example/intervalsandplaces/impl.basicTable"], apart := false, laid := [("loop.example/intervalsandplaces/impl.basicTable", laid_loop_example_intervalsandplaces_impl_basicTable)] }
def FnExactNetHoldsSaid : Prop := fnExactNetHoldsRow.holds Tryd.pinned (OpenSpec.ofChange fnExactNetHoldsSpec)

/-- ITS FALSE NEIGHBOUR: 'it returns false'. Refute it at one input. -/
def fnExactNetHoldsWrong : ChangeSpec := { name := "fnExactNetHolds", vars := ["loop.example/intervalsandplaces/impl.basicTable"], fn := fun _ => fun
  | [d1, d2, g1] => { results := [.lit (.bool false)], args := [d1, d2], vars := [g1] }
  | _ => none }
def FnExactNetHoldsWrongFalsely : Prop := fnExactNetHoldsRow.holds Tryd.pinned (OpenSpec.ofChange fnExactNetHoldsWrong)

/- THE SECOND FORM. 'bulk': how many values and letters a reading holds, each counted each time it is reached (what is shared counts as often as it is met; a slice's spare places count too). A statement '..UptoSaid' is the law's where the arguments, and the package variables that the reading takes, are together of bulk at most 1048576: NARROWER than '..Said'. Prove '..Said' where nothing that the law and all that it calls make is longer than what came in: it says more and counts as full. Else prove '..UptoSaid'. A law counts once. -/
mutual
def uptoBulk {H : Type} : DataW H → Nat
  | .lit (.string bytes) => bytes.length + 1
  | .lit _ => 1
  | .nil => 1
  | .ptr d => uptoBulk d + 1
  | .slice elems spare => uptoBulkAll elems + uptoBulkAll spare + 1
  | .agg parts => uptoBulkAll parts + 1
  | .iface _ d => uptoBulk d + 1
  | .map entries => uptoBulkEntries entries + 1
  | .held _ => 1
def uptoBulkAll {H : Type} : List (DataW H) → Nat
  | [] => 0
  | d :: r => uptoBulk d + uptoBulkAll r
def uptoBulkEntries {H : Type} : List (Lit × DataW H) → Nat
  | [] => 0
  | x :: r => uptoBulkEntry x + uptoBulkEntries r
def uptoBulkEntry {H : Type} : Lit × DataW H → Nat
  | (.string bytes, d) => bytes.length + uptoBulk d + 1
  | (_, d) => uptoBulk d + 1
 end
def uptoSmall : (H : Type) → List (DataW H) → Bool := fun _ ds => decide (uptoBulkAll ds ≤ 1048576)
def OpenSpec.upto (s : _root_.Go.ChangeSpec) : _root_.Go.OpenSpec := { _root_.Go.OpenSpec.ofChange s with cond := some uptoSmall }

/-- 'laws.FnExactNetValid', WHERE WHAT IT READS IS OF BULK AT MOST 1048576: true; the input reads as it did. -/
def fnExactNetValidUptoRow : OpenClaim := { program := "ytdamnhigdaklcaadoor", sum := "c645cedaf633f2e58304140c1f450ba4e8aaa3f794ef37bbf3921fa8f7273092", func := "loop.example/intervalsandplaces/laws.FnExactNetValid", spec := "fnExactNetValid", inPlace := ["internal/bytealg.IndexByteString"], unfollowed := true, recurses := true, named := ["loop.example/intervalsandplaces/impl.basicTable"], apart := false, laid := [("loop.example/intervalsandplaces/impl.basicTable", laid_loop_example_intervalsandplaces_impl_basicTable)], narrowed := true }
def FnExactNetValidUptoSaid : Prop := fnExactNetValidUptoRow.holds Tryd.pinned (OpenSpec.upto fnExactNetValidSpec)

/-- 'laws.FnExactRelIn', WHERE WHAT IT READS IS OF BULK AT MOST 1048576: true; the input reads as it did. -/
def fnExactRelInUptoRow : OpenClaim := { program := "ytdamnhigdaklcaadoor", sum := "c645cedaf633f2e58304140c1f450ba4e8aaa3f794ef37bbf3921fa8f7273092", func := "loop.example/intervalsandplaces/laws.FnExactRelIn", spec := "fnExactRelIn", inPlace := ["internal/bytealg.IndexByteString"], unfollowed := true, recurses := true, named := ["loop.example/intervalsandplaces/impl.basicTable"], apart := false, laid := [("loop.example/intervalsandplaces/impl.basicTable", laid_loop_example_intervalsandplaces_impl_basicTable)], narrowed := true }
def FnExactRelInUptoSaid : Prop := fnExactRelInUptoRow.holds Tryd.pinned (OpenSpec.upto fnExactRelInSpec)

/-- 'laws.FnExactPutRel', WHERE WHAT IT READS IS OF BULK AT MOST 1048576: true; the input reads as it did. -/
def fnExactPutRelUptoRow : OpenClaim := { program := "ytdamnhigdaklcaadoor", sum := "c645cedaf633f2e58304140c1f450ba4e8aaa3f794ef37bbf3921fa8f7273092", func := "loop.example/intervalsandplaces/laws.FnExactPutRel", spec := "fnExactPutRel", inPlace := ["internal/bytealg.IndexByteString", "internal/abi.NoEscape"], unfollowed := true, recurses := true, named := ["loop.example/intervalsandplaces/impl.basicTable"], apart := false, laid := [("loop.example/intervalsandplaces/impl.basicTable", laid_loop_example_intervalsandplaces_impl_basicTable)], narrowed := true }
def FnExactPutRelUptoSaid : Prop := fnExactPutRelUptoRow.holds Tryd.pinned (OpenSpec.upto fnExactPutRelSpec)

/-- 'laws.FnExactLimitRel', WHERE WHAT IT READS IS OF BULK AT MOST 1048576: true; the input reads as it did. -/
def fnExactLimitRelUptoRow : OpenClaim := { program := "ytdamnhigdaklcaadoor", sum := "c645cedaf633f2e58304140c1f450ba4e8aaa3f794ef37bbf3921fa8f7273092", func := "loop.example/intervalsandplaces/laws.FnExactLimitRel", spec := "fnExactLimitRel", inPlace := ["internal/bytealg.IndexByteString", "internal/abi.NoEscape"], unfollowed := true, recurses := true, named := ["loop.example/intervalsandplaces/impl.basicTable"], apart := false, laid := [("loop.example/intervalsandplaces/impl.basicTable", laid_loop_example_intervalsandplaces_impl_basicTable)], narrowed := true }
def FnExactLimitRelUptoSaid : Prop := fnExactLimitRelUptoRow.holds Tryd.pinned (OpenSpec.upto fnExactLimitRelSpec)

/-- 'laws.FnExactPartNet', WHERE WHAT IT READS IS OF BULK AT MOST 1048576: true; the input reads as it did. -/
def fnExactPartNetUptoRow : OpenClaim := { program := "ytdamnhigdaklcaadoor", sum := "c645cedaf633f2e58304140c1f450ba4e8aaa3f794ef37bbf3921fa8f7273092", func := "loop.example/intervalsandplaces/laws.FnExactPartNet", spec := "fnExactPartNet", inPlace := ["internal/bytealg.IndexByteString", "internal/abi.NoEscape"], unfollowed := true, recurses := true, named := ["loop.example/intervalsandplaces/impl.basicTable"], apart := false, laid := [("loop.example/intervalsandplaces/impl.basicTable", laid_loop_example_intervalsandplaces_impl_basicTable)], narrowed := true }
def FnExactPartNetUptoSaid : Prop := fnExactPartNetUptoRow.holds Tryd.pinned (OpenSpec.upto fnExactPartNetSpec)

/-- 'laws.FnExactMeetNets', WHERE WHAT IT READS IS OF BULK AT MOST 1048576: true; the input reads as it did. -/
def fnExactMeetNetsUptoRow : OpenClaim := { program := "ytdamnhigdaklcaadoor", sum := "c645cedaf633f2e58304140c1f450ba4e8aaa3f794ef37bbf3921fa8f7273092", func := "loop.example/intervalsandplaces/laws.FnExactMeetNets", spec := "fnExactMeetNets", inPlace := ["internal/bytealg.IndexByteString", "internal/abi.NoEscape"], unfollowed := true, recurses := true, named := ["loop.example/intervalsandplaces/impl.basicTable"], apart := false, laid := [("loop.example/intervalsandplaces/impl.basicTable", laid_loop_example_intervalsandplaces_impl_basicTable)], narrowed := true }
def FnExactMeetNetsUptoSaid : Prop := fnExactMeetNetsUptoRow.holds Tryd.pinned (OpenSpec.upto fnExactMeetNetsSpec)

/-- 'laws.FnExactWithinNet', WHERE WHAT IT READS IS OF BULK AT MOST 1048576: true; the input reads as it did. -/
def fnExactWithinNetUptoRow : OpenClaim := { program := "ytdamnhigdaklcaadoor", sum := "c645cedaf633f2e58304140c1f450ba4e8aaa3f794ef37bbf3921fa8f7273092", func := "loop.example/intervalsandplaces/laws.FnExactWithinNet", spec := "fnExactWithinNet", inPlace := ["internal/bytealg.IndexByteString"], unfollowed := true, recurses := true, named := ["loop.example/intervalsandplaces/impl.basicTable"], apart := false, laid := [("loop.example/intervalsandplaces/impl.basicTable", laid_loop_example_intervalsandplaces_impl_basicTable)], narrowed := true }
def FnExactWithinNetUptoSaid : Prop := fnExactWithinNetUptoRow.holds Tryd.pinned (OpenSpec.upto fnExactWithinNetSpec)

/-- 'laws.FnExactMirrorNet', WHERE WHAT IT READS IS OF BULK AT MOST 1048576: true; the input reads as it did. -/
def fnExactMirrorNetUptoRow : OpenClaim := { program := "ytdamnhigdaklcaadoor", sum := "c645cedaf633f2e58304140c1f450ba4e8aaa3f794ef37bbf3921fa8f7273092", func := "loop.example/intervalsandplaces/laws.FnExactMirrorNet", spec := "fnExactMirrorNet", inPlace := ["internal/bytealg.IndexByteString", "internal/abi.NoEscape"], unfollowed := true, recurses := true, named := ["loop.example/intervalsandplaces/impl.basicTable"], apart := false, laid := [("loop.example/intervalsandplaces/impl.basicTable", laid_loop_example_intervalsandplaces_impl_basicTable)], narrowed := true }
def FnExactMirrorNetUptoSaid : Prop := fnExactMirrorNetUptoRow.holds Tryd.pinned (OpenSpec.upto fnExactMirrorNetSpec)

/-- 'laws.FnExactCountChoices', WHERE WHAT IT READS IS OF BULK AT MOST 1048576: true; the input reads as it did. -/
def fnExactCountChoicesUptoRow : OpenClaim := { program := "ytdamnhigdaklcaadoor", sum := "c645cedaf633f2e58304140c1f450ba4e8aaa3f794ef37bbf3921fa8f7273092", func := "loop.example/intervalsandplaces/laws.FnExactCountChoices", spec := "fnExactCountChoices", inPlace := ["internal/bytealg.IndexByteString"], unfollowed := true, recurses := true, named := ["loop.example/intervalsandplaces/impl.basicTable"], apart := false, laid := [("loop.example/intervalsandplaces/impl.basicTable", laid_loop_example_intervalsandplaces_impl_basicTable)], narrowed := true }
def FnExactCountChoicesUptoSaid : Prop := fnExactCountChoicesUptoRow.holds Tryd.pinned (OpenSpec.upto fnExactCountChoicesSpec)

/-- 'laws.FnExactNetOf', WHERE WHAT IT READS IS OF BULK AT MOST 1048576: true; the input reads as it did. -/
def fnExactNetOfUptoRow : OpenClaim := { program := "ytdamnhigdaklcaadoor", sum := "c645cedaf633f2e58304140c1f450ba4e8aaa3f794ef37bbf3921fa8f7273092", func := "loop.example/intervalsandplaces/laws.FnExactNetOf", spec := "fnExactNetOf", inPlace := ["internal/abi.NoEscape"], unfollowed := true, recurses := true, named := ["loop.example/intervalsandplaces/impl.basicTable"], apart := false, laid := [("loop.example/intervalsandplaces/impl.basicTable", laid_loop_example_intervalsandplaces_impl_basicTable)], narrowed := true }
def FnExactNetOfUptoSaid : Prop := fnExactNetOfUptoRow.holds Tryd.pinned (OpenSpec.upto fnExactNetOfSpec)

/-- 'laws.FnExactNetHolds', WHERE WHAT IT READS IS OF BULK AT MOST 1048576: true; the input reads as it did. -/
def fnExactNetHoldsUptoRow : OpenClaim := { program := "ytdamnhigdaklcaadoor", sum := "c645cedaf633f2e58304140c1f450ba4e8aaa3f794ef37bbf3921fa8f7273092", func := "loop.example/intervalsandplaces/laws.FnExactNetHolds", spec := "fnExactNetHolds", inPlace := ["internal/abi.NoEscape", "internal/bytealg.IndexByteString"], unfollowed := true, recurses := true, named := ["loop.example/intervalsandplaces/impl.basicTable"], apart := false, laid := [("loop.example/intervalsandplaces/impl.basicTable", laid_loop_example_intervalsandplaces_impl_basicTable)], narrowed := true }
def FnExactNetHoldsUptoSaid : Prop := fnExactNetHoldsUptoRow.holds Tryd.pinned (OpenSpec.upto fnExactNetHoldsSpec)

end Rows
end Go.Proofs.YtdamnhigdaklcaaDoor
