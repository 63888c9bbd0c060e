/-
  NARROWER THAN 'FOR EVERY INPUT', by the rows' own cells (each row's printed sentence says how): FnExactFormatRel: laid · FnExactParseRel: laid · FnExactRelHolds: laid · FnExactTurnRel: laid · FnExactMirrorRel: laid · FnExactComposeBasic: laid · FnExactComposeRel: laid · FnExactNamedRel: laid · FnExactResidualRel: laid.
  DERIVED. THE GIVEN ROWS OF THIS SEAT. 9 by the template 'for every input the law returns true; each argument reads behind the call as it read before'; 0 by the template 'total and deterministic' (their statements: YthldegohihkkiaaDoorTotals.lean).
  GIVEN WITH THE SEED: the statements are not yours to turn. If you find one false, say at which input.
  Laid BY PROGRAM, IN A SANDBOX (cutbox-rows.mjs): the forced cells as the released guide's own fill.sh prints them over the translation b22052cc39f1f84f… (all of the seat's roots in one cut). By AI agents, Wed Nov 11 2026. No macro, syntax, notation, axiom, sorry.
-/
import Derived.Test.YthldegohihkkiaaDoorChecked
import GoSem.Claim
import GoSem.ClaimJoined
import GoSem.ClaimMapViews
import Derived.JoinedTies
import Derived.KernelRfl
namespace Go.Proofs.YthldegohihkkiaaDoor
/- THE CELL 'sum', in the pinned program and in every row, IS THE sha256 OF THE DUMP (.gsa) THAT YthldegohihkkiaaDoorProg.lean LOADS. Nothing in Lean hashes anything: it is a label: what it is worth is what the hold of that sum in a sandbox is worth. -/
noncomputable def Tryd.pinned : Pinned := { name := "ythldegohihkkiaadoor", sum := "b22052cc39f1f84f7e99104d29dd6ba27ebc78952252474ab4362175211dfbd8", checked := Tryd.checked }
namespace Rows
def none {H : Type} : Left H := { results := [], args := [] }

/- WHAT THE LISTED PACKAGE-LEVEL VARIABLES READ AS WHEN THE CALL BEGINS. Each datum BY PROGRAM (the guide's laid-datum.mjs) off the statement by which the dump's own 'gosem.cut.vars' lays the variable. In a bare row this is a premise. The card (YthldegohihkkiaaDoorCards.lean) ties it to the program's text. -/
def laid_loop_example_intervalsandplaces_impl_basicTable {H : Type} : DataW H := .agg [.agg [.lit (.string [98]), .lit (.int .i64 0), .lit (.int .i64 0)], .agg [.lit (.string [109]), .lit (.int .i64 0), .lit (.int .i64 1)], .agg [.lit (.string [111]), .lit (.int .i64 0), .lit (.int .i64 2)], .agg [.lit (.string [115]), .lit (.int .i64 1), .lit (.int .i64 2)], .agg [.lit (.string [100]), .lit (.int .i64 2), .lit (.int .i64 2)], .agg [.lit (.string [102]), .lit (.int .i64 2), .lit (.int .i64 3)], .agg [.lit (.string [101]), .lit (.int .i64 1), .lit (.int .i64 3)], .agg [.lit (.string [70]), .lit (.int .i64 0), .lit (.int .i64 3)], .agg [.lit (.string [68]), .lit (.int .i64 0), .lit (.int .i64 4)], .agg [.lit (.string [83]), .lit (.int .i64 1), .lit (.int .i64 4)], .agg [.lit (.string [79]), .lit (.int .i64 2), .lit (.int .i64 4)], .agg [.lit (.string [77]), .lit (.int .i64 3), .lit (.int .i64 4)], .agg [.lit (.string [66]), .lit (.int .i64 4), .lit (.int .i64 4)]]
def laid_loop_example_intervalsandplaces_impl_namedTable {H : Type} : DataW H := .agg [.agg [.lit (.string [97, 108, 108]), .lit (.string [98, 109, 111, 115, 100, 102, 101, 70, 68, 83, 79, 77, 66])], .agg [.lit (.string [110, 111, 110, 101]), .lit (.string [45])], .agg [.lit (.string [97, 112, 97, 114, 116]), .lit (.string [98, 109, 77, 66])], .agg [.lit (.string [99, 111, 109, 109, 111, 110]), .lit (.string [111, 115, 100, 102, 101, 70, 68, 83, 79])], .agg [.lit (.string [119, 105, 116, 104, 105, 110]), .lit (.string [115, 100, 102, 101])], .agg [.lit (.string [98, 101, 103, 105, 110, 115]), .lit (.string [115, 101, 83])], .agg [.lit (.string [101, 110, 100, 115]), .lit (.string [102, 101, 70])], .agg [.lit (.string [101, 97, 114, 108, 105, 101, 114]), .lit (.string [98, 109, 111, 70, 68])]]

/-- 'laws.FnExactFormatRel': WHATEVER THE INPUT: true; the input reads as it did. -/
def fnExactFormatRelSpec : ChangeSpec := { name := "fnExactFormatRel", vars := ["loop.example/intervalsandplaces/impl.basicTable"], fn := fun _ => fun
  | [d, g1] => { results := [.lit (.bool true)], args := [d], vars := [g1] }
  | _ => none }
def fnExactFormatRelRow : OpenClaim := { program := "ythldegohihkkiaadoor", sum := "b22052cc39f1f84f7e99104d29dd6ba27ebc78952252474ab4362175211dfbd8", func := "loop.example/intervalsandplaces/laws.FnExactFormatRel", spec := "fnExactFormatRel", inPlace := ["internal/abi.NoEscape"], named := ["loop.example/intervalsandplaces/impl.basicTable"], apart := false, laid := [("loop.example/intervalsandplaces/impl.basicTable", laid_loop_example_intervalsandplaces_impl_basicTable)] }
def FnExactFormatRelSaid : Prop := fnExactFormatRelRow.holds Tryd.pinned (OpenSpec.ofChange fnExactFormatRelSpec)

/-- ITS FALSE NEIGHBOUR: 'it returns false'. Refute it at one input. -/
def fnExactFormatRelWrong : ChangeSpec := { name := "fnExactFormatRel", vars := ["loop.example/intervalsandplaces/impl.basicTable"], fn := fun _ => fun
  | [d, g1] => { results := [.lit (.bool false)], args := [d], vars := [g1] }
  | _ => none }
def FnExactFormatRelWrongFalsely : Prop := fnExactFormatRelRow.holds Tryd.pinned (OpenSpec.ofChange fnExactFormatRelWrong)

/-- 'laws.FnExactParseRel': WHATEVER THE INPUT: true; the input reads as it did. -/
def fnExactParseRelSpec : ChangeSpec := { name := "fnExactParseRel", vars := ["loop.example/intervalsandplaces/impl.basicTable"], fn := fun _ => fun
  | [d, g1] => { results := [.lit (.bool true)], args := [d], vars := [g1] }
  | _ => none }
def fnExactParseRelRow : OpenClaim := { program := "ythldegohihkkiaadoor", sum := "b22052cc39f1f84f7e99104d29dd6ba27ebc78952252474ab4362175211dfbd8", func := "loop.example/intervalsandplaces/laws.FnExactParseRel", spec := "fnExactParseRel", inPlace := ["internal/abi.NoEscape"], unfollowed := true, recurses := true, named := ["loop.example/intervalsandplaces/impl.basicTable"], apart := false, laid := [("loop.example/intervalsandplaces/impl.basicTable", laid_loop_example_intervalsandplaces_impl_basicTable)] }
def FnExactParseRelSaid : Prop := fnExactParseRelRow.holds Tryd.pinned (OpenSpec.ofChange fnExactParseRelSpec)

/-- ITS FALSE NEIGHBOUR: 'it returns false'. Refute it at one input. -/
def fnExactParseRelWrong : ChangeSpec := { name := "fnExactParseRel", vars := ["loop.example/intervalsandplaces/impl.basicTable"], fn := fun _ => fun
  | [d, g1] => { results := [.lit (.bool false)], args := [d], vars := [g1] }
  | _ => none }
def FnExactParseRelWrongFalsely : Prop := fnExactParseRelRow.holds Tryd.pinned (OpenSpec.ofChange fnExactParseRelWrong)

/-- 'laws.FnExactRelHolds': WHATEVER THE INPUT: true; the input reads as it did. -/
def fnExactRelHoldsSpec : ChangeSpec := { name := "fnExactRelHolds", vars := ["loop.example/intervalsandplaces/impl.basicTable"], fn := fun _ => fun
  | [d1, d2, d3, g1] => { results := [.lit (.bool true)], args := [d1, d2, d3], vars := [g1] }
  | _ => none }
def fnExactRelHoldsRow : OpenClaim := { program := "ythldegohihkkiaadoor", sum := "b22052cc39f1f84f7e99104d29dd6ba27ebc78952252474ab4362175211dfbd8", func := "loop.example/intervalsandplaces/laws.FnExactRelHolds", spec := "fnExactRelHolds", unfollowed := true, recurses := true, named := ["loop.example/intervalsandplaces/impl.basicTable"], apart := false, laid := [("loop.example/intervalsandplaces/impl.basicTable", laid_loop_example_intervalsandplaces_impl_basicTable)] }
def FnExactRelHoldsSaid : Prop := fnExactRelHoldsRow.holds Tryd.pinned (OpenSpec.ofChange fnExactRelHoldsSpec)

/-- ITS FALSE NEIGHBOUR: 'it returns false'. Refute it at one input. -/
def fnExactRelHoldsWrong : ChangeSpec := { name := "fnExactRelHolds", vars := ["loop.example/intervalsandplaces/impl.basicTable"], fn := fun _ => fun
  | [d1, d2, d3, g1] => { results := [.lit (.bool false)], args := [d1, d2, d3], vars := [g1] }
  | _ => none }
def FnExactRelHoldsWrongFalsely : Prop := fnExactRelHoldsRow.holds Tryd.pinned (OpenSpec.ofChange fnExactRelHoldsWrong)

/-- 'laws.FnExactTurnRel': WHATEVER THE INPUT: true; the input reads as it did. -/
def fnExactTurnRelSpec : ChangeSpec := { name := "fnExactTurnRel", vars := ["loop.example/intervalsandplaces/impl.basicTable"], fn := fun _ => fun
  | [d, g1] => { results := [.lit (.bool true)], args := [d], vars := [g1] }
  | _ => none }
def fnExactTurnRelRow : OpenClaim := { program := "ythldegohihkkiaadoor", sum := "b22052cc39f1f84f7e99104d29dd6ba27ebc78952252474ab4362175211dfbd8", func := "loop.example/intervalsandplaces/laws.FnExactTurnRel", spec := "fnExactTurnRel", unfollowed := true, recurses := true, named := ["loop.example/intervalsandplaces/impl.basicTable"], apart := false, laid := [("loop.example/intervalsandplaces/impl.basicTable", laid_loop_example_intervalsandplaces_impl_basicTable)] }
def FnExactTurnRelSaid : Prop := fnExactTurnRelRow.holds Tryd.pinned (OpenSpec.ofChange fnExactTurnRelSpec)

/-- ITS FALSE NEIGHBOUR: 'it returns false'. Refute it at one input. -/
def fnExactTurnRelWrong : ChangeSpec := { name := "fnExactTurnRel", vars := ["loop.example/intervalsandplaces/impl.basicTable"], fn := fun _ => fun
  | [d, g1] => { results := [.lit (.bool false)], args := [d], vars := [g1] }
  | _ => none }
def FnExactTurnRelWrongFalsely : Prop := fnExactTurnRelRow.holds Tryd.pinned (OpenSpec.ofChange fnExactTurnRelWrong)

/-- 'laws.FnExactMirrorRel': WHATEVER THE INPUT: true; the input reads as it did. -/
def fnExactMirrorRelSpec : ChangeSpec := { name := "fnExactMirrorRel", vars := ["loop.example/intervalsandplaces/impl.basicTable"], fn := fun _ => fun
  | [d, g1] => { results := [.lit (.bool true)], args := [d], vars := [g1] }
  | _ => none }
def fnExactMirrorRelRow : OpenClaim := { program := "ythldegohihkkiaadoor", sum := "b22052cc39f1f84f7e99104d29dd6ba27ebc78952252474ab4362175211dfbd8", func := "loop.example/intervalsandplaces/laws.FnExactMirrorRel", spec := "fnExactMirrorRel", unfollowed := true, recurses := true, named := ["loop.example/intervalsandplaces/impl.basicTable"], apart := false, laid := [("loop.example/intervalsandplaces/impl.basicTable", laid_loop_example_intervalsandplaces_impl_basicTable)] }
def FnExactMirrorRelSaid : Prop := fnExactMirrorRelRow.holds Tryd.pinned (OpenSpec.ofChange fnExactMirrorRelSpec)

/-- ITS FALSE NEIGHBOUR: 'it returns false'. Refute it at one input. -/
def fnExactMirrorRelWrong : ChangeSpec := { name := "fnExactMirrorRel", vars := ["loop.example/intervalsandplaces/impl.basicTable"], fn := fun _ => fun
  | [d, g1] => { results := [.lit (.bool false)], args := [d], vars := [g1] }
  | _ => none }
def FnExactMirrorRelWrongFalsely : Prop := fnExactMirrorRelRow.holds Tryd.pinned (OpenSpec.ofChange fnExactMirrorRelWrong)

/-- 'laws.FnExactComposeBasic': WHATEVER THE INPUT: true; the input reads as it did. -/
def fnExactComposeBasicSpec : ChangeSpec := { name := "fnExactComposeBasic", vars := ["loop.example/intervalsandplaces/impl.basicTable"], fn := fun _ => fun
  | [d1, d2, g1] => { results := [.lit (.bool true)], args := [d1, d2], vars := [g1] }
  | _ => none }
def fnExactComposeBasicRow : OpenClaim := { program := "ythldegohihkkiaadoor", sum := "b22052cc39f1f84f7e99104d29dd6ba27ebc78952252474ab4362175211dfbd8", func := "loop.example/intervalsandplaces/laws.FnExactComposeBasic", spec := "fnExactComposeBasic", unfollowed := true, recurses := true, named := ["loop.example/intervalsandplaces/impl.basicTable"], apart := false, laid := [("loop.example/intervalsandplaces/impl.basicTable", laid_loop_example_intervalsandplaces_impl_basicTable)] }
def FnExactComposeBasicSaid : Prop := fnExactComposeBasicRow.holds Tryd.pinned (OpenSpec.ofChange fnExactComposeBasicSpec)

/-- ITS FALSE NEIGHBOUR: 'it returns false'. Refute it at one input. -/
def fnExactComposeBasicWrong : ChangeSpec := { name := "fnExactComposeBasic", vars := ["loop.example/intervalsandplaces/impl.basicTable"], fn := fun _ => fun
  | [d1, d2, g1] => { results := [.lit (.bool false)], args := [d1, d2], vars := [g1] }
  | _ => none }
def FnExactComposeBasicWrongFalsely : Prop := fnExactComposeBasicRow.holds Tryd.pinned (OpenSpec.ofChange fnExactComposeBasicWrong)

/-- 'laws.FnExactComposeRel': WHATEVER THE INPUT: true; the input reads as it did. -/
def fnExactComposeRelSpec : ChangeSpec := { name := "fnExactComposeRel", vars := ["loop.example/intervalsandplaces/impl.basicTable"], fn := fun _ => fun
  | [d1, d2, g1] => { results := [.lit (.bool true)], args := [d1, d2], vars := [g1] }
  | _ => none }
def fnExactComposeRelRow : OpenClaim := { program := "ythldegohihkkiaadoor", sum := "b22052cc39f1f84f7e99104d29dd6ba27ebc78952252474ab4362175211dfbd8", func := "loop.example/intervalsandplaces/laws.FnExactComposeRel", spec := "fnExactComposeRel", unfollowed := true, recurses := true, named := ["loop.example/intervalsandplaces/impl.basicTable"], apart := false, laid := [("loop.example/intervalsandplaces/impl.basicTable", laid_loop_example_intervalsandplaces_impl_basicTable)] }
def FnExactComposeRelSaid : Prop := fnExactComposeRelRow.holds Tryd.pinned (OpenSpec.ofChange fnExactComposeRelSpec)

/-- ITS FALSE NEIGHBOUR: 'it returns false'. Refute it at one input. -/
def fnExactComposeRelWrong : ChangeSpec := { name := "fnExactComposeRel", vars := ["loop.example/intervalsandplaces/impl.basicTable"], fn := fun _ => fun
  | [d1, d2, g1] => { results := [.lit (.bool false)], args := [d1, d2], vars := [g1] }
  | _ => none }
def FnExactComposeRelWrongFalsely : Prop := fnExactComposeRelRow.holds Tryd.pinned (OpenSpec.ofChange fnExactComposeRelWrong)

/-- 'laws.FnExactNamedRel': WHATEVER THE INPUT: true; the input reads as it did. -/
def fnExactNamedRelSpec : ChangeSpec := { name := "fnExactNamedRel", vars := ["loop.example/intervalsandplaces/impl.namedTable", "loop.example/intervalsandplaces/impl.basicTable"], fn := fun _ => fun
  | [d, g1, g2] => { results := [.lit (.bool true)], args := [d], vars := [g1, g2] }
  | _ => none }
def fnExactNamedRelRow : OpenClaim := { program := "ythldegohihkkiaadoor", sum := "b22052cc39f1f84f7e99104d29dd6ba27ebc78952252474ab4362175211dfbd8", func := "loop.example/intervalsandplaces/laws.FnExactNamedRel", spec := "fnExactNamedRel", inPlace := ["internal/abi.NoEscape"], unfollowed := true, recurses := true, named := ["loop.example/intervalsandplaces/impl.namedTable", "loop.example/intervalsandplaces/impl.basicTable"], apart := false, laid := [("loop.example/intervalsandplaces/impl.basicTable", laid_loop_example_intervalsandplaces_impl_basicTable), ("loop.example/intervalsandplaces/impl.namedTable", laid_loop_example_intervalsandplaces_impl_namedTable)] }
def FnExactNamedRelSaid : Prop := fnExactNamedRelRow.holds Tryd.pinned (OpenSpec.ofChange fnExactNamedRelSpec)

/-- ITS FALSE NEIGHBOUR: 'it returns false'. Refute it at one input. -/
def fnExactNamedRelWrong : ChangeSpec := { name := "fnExactNamedRel", vars := ["loop.example/intervalsandplaces/impl.namedTable", "loop.example/intervalsandplaces/impl.basicTable"], fn := fun _ => fun
  | [d, g1, g2] => { results := [.lit (.bool false)], args := [d], vars := [g1, g2] }
  | _ => none }
def FnExactNamedRelWrongFalsely : Prop := fnExactNamedRelRow.holds Tryd.pinned (OpenSpec.ofChange fnExactNamedRelWrong)

/-- 'laws.FnExactResidualRel': WHATEVER THE INPUT: true; the input reads as it did. -/
def fnExactResidualRelSpec : ChangeSpec := { name := "fnExactResidualRel", vars := ["loop.example/intervalsandplaces/impl.basicTable"], fn := fun _ => fun
  | [d1, d2, g1] => { results := [.lit (.bool true)], args := [d1, d2], vars := [g1] }
  | _ => none }
def fnExactResidualRelRow : OpenClaim := { program := "ythldegohihkkiaadoor", sum := "b22052cc39f1f84f7e99104d29dd6ba27ebc78952252474ab4362175211dfbd8", func := "loop.example/intervalsandplaces/laws.FnExactResidualRel", spec := "fnExactResidualRel", unfollowed := true, recurses := true, named := ["loop.example/intervalsandplaces/impl.basicTable"], apart := false, laid := [("loop.example/intervalsandplaces/impl.basicTable", laid_loop_example_intervalsandplaces_impl_basicTable)] }
def FnExactResidualRelSaid : Prop := fnExactResidualRelRow.holds Tryd.pinned (OpenSpec.ofChange fnExactResidualRelSpec)

/-- ITS FALSE NEIGHBOUR: 'it returns false'. Refute it at one input. -/
def fnExactResidualRelWrong : ChangeSpec := { name := "fnExactResidualRel", vars := ["loop.example/intervalsandplaces/impl.basicTable"], fn := fun _ => fun
  | [d1, d2, g1] => { results := [.lit (.bool false)], args := [d1, d2], vars := [g1] }
  | _ => none }
def FnExactResidualRelWrongFalsely : Prop := fnExactResidualRelRow.holds Tryd.pinned (OpenSpec.ofChange fnExactResidualRelWrong)

/- THE SECOND FORM. 'bulk': how many values and letters a reading holds, each counted each time it is reached (what is shared counts as often as it is met; a slice's spare places count too). A statement '..UptoSaid' is the law's where the arguments, and the package variables that the reading takes, are together of bulk at most 1048576: NARROWER than '..Said'. Prove '..Said' where nothing that the law and all that it calls make is longer than what came in: it says more and counts as full. Else prove '..UptoSaid'. A law counts once. -/
mutual
def uptoBulk {H : Type} : DataW H → Nat
  | .lit (.string bytes) => bytes.length + 1
  | .lit _ => 1
  | .nil => 1
  | .ptr d => uptoBulk d + 1
  | .slice elems spare => uptoBulkAll elems + uptoBulkAll spare + 1
  | .agg parts => uptoBulkAll parts + 1
  | .iface _ d => uptoBulk d + 1
  | .map entries => uptoBulkEntries entries + 1
  | .held _ => 1
def uptoBulkAll {H : Type} : List (DataW H) → Nat
  | [] => 0
  | d :: r => uptoBulk d + uptoBulkAll r
def uptoBulkEntries {H : Type} : List (Lit × DataW H) → Nat
  | [] => 0
  | x :: r => uptoBulkEntry x + uptoBulkEntries r
def uptoBulkEntry {H : Type} : Lit × DataW H → Nat
  | (.string bytes, d) => bytes.length + uptoBulk d + 1
  | (_, d) => uptoBulk d + 1
 end
def uptoSmall : (H : Type) → List (DataW H) → Bool := fun _ ds => decide (uptoBulkAll ds ≤ 1048576)
def OpenSpec.upto (s : _root_.Go.ChangeSpec) : _root_.Go.OpenSpec := { _root_.Go.OpenSpec.ofChange s with cond := some uptoSmall }

/-- 'laws.FnExactFormatRel', WHERE WHAT IT READS IS OF BULK AT MOST 1048576: true; the input reads as it did. -/
def fnExactFormatRelUptoRow : OpenClaim := { program := "ythldegohihkkiaadoor", sum := "b22052cc39f1f84f7e99104d29dd6ba27ebc78952252474ab4362175211dfbd8", func := "loop.example/intervalsandplaces/laws.FnExactFormatRel", spec := "fnExactFormatRel", inPlace := ["internal/abi.NoEscape"], named := ["loop.example/intervalsandplaces/impl.basicTable"], apart := false, laid := [("loop.example/intervalsandplaces/impl.basicTable", laid_loop_example_intervalsandplaces_impl_basicTable)], narrowed := true }
def FnExactFormatRelUptoSaid : Prop := fnExactFormatRelUptoRow.holds Tryd.pinned (OpenSpec.upto fnExactFormatRelSpec)

/-- 'laws.FnExactParseRel', WHERE WHAT IT READS IS OF BULK AT MOST 1048576: true; the input reads as it did. -/
def fnExactParseRelUptoRow : OpenClaim := { program := "ythldegohihkkiaadoor", sum := "b22052cc39f1f84f7e99104d29dd6ba27ebc78952252474ab4362175211dfbd8", func := "loop.example/intervalsandplaces/laws.FnExactParseRel", spec := "fnExactParseRel", inPlace := ["internal/abi.NoEscape"], unfollowed := true, recurses := true, named := ["loop.example/intervalsandplaces/impl.basicTable"], apart := false, laid := [("loop.example/intervalsandplaces/impl.basicTable", laid_loop_example_intervalsandplaces_impl_basicTable)], narrowed := true }
def FnExactParseRelUptoSaid : Prop := fnExactParseRelUptoRow.holds Tryd.pinned (OpenSpec.upto fnExactParseRelSpec)

/-- 'laws.FnExactRelHolds', WHERE WHAT IT READS IS OF BULK AT MOST 1048576: true; the input reads as it did. -/
def fnExactRelHoldsUptoRow : OpenClaim := { program := "ythldegohihkkiaadoor", sum := "b22052cc39f1f84f7e99104d29dd6ba27ebc78952252474ab4362175211dfbd8", func := "loop.example/intervalsandplaces/laws.FnExactRelHolds", spec := "fnExactRelHolds", unfollowed := true, recurses := true, named := ["loop.example/intervalsandplaces/impl.basicTable"], apart := false, laid := [("loop.example/intervalsandplaces/impl.basicTable", laid_loop_example_intervalsandplaces_impl_basicTable)], narrowed := true }
def FnExactRelHoldsUptoSaid : Prop := fnExactRelHoldsUptoRow.holds Tryd.pinned (OpenSpec.upto fnExactRelHoldsSpec)

/-- 'laws.FnExactTurnRel', WHERE WHAT IT READS IS OF BULK AT MOST 1048576: true; the input reads as it did. -/
def fnExactTurnRelUptoRow : OpenClaim := { program := "ythldegohihkkiaadoor", sum := "b22052cc39f1f84f7e99104d29dd6ba27ebc78952252474ab4362175211dfbd8", func := "loop.example/intervalsandplaces/laws.FnExactTurnRel", spec := "fnExactTurnRel", unfollowed := true, recurses := true, named := ["loop.example/intervalsandplaces/impl.basicTable"], apart := false, laid := [("loop.example/intervalsandplaces/impl.basicTable", laid_loop_example_intervalsandplaces_impl_basicTable)], narrowed := true }
def FnExactTurnRelUptoSaid : Prop := fnExactTurnRelUptoRow.holds Tryd.pinned (OpenSpec.upto fnExactTurnRelSpec)

/-- 'laws.FnExactMirrorRel', WHERE WHAT IT READS IS OF BULK AT MOST 1048576: true; the input reads as it did. -/
def fnExactMirrorRelUptoRow : OpenClaim := { program := "ythldegohihkkiaadoor", sum := "b22052cc39f1f84f7e99104d29dd6ba27ebc78952252474ab4362175211dfbd8", func := "loop.example/intervalsandplaces/laws.FnExactMirrorRel", spec := "fnExactMirrorRel", unfollowed := true, recurses := true, named := ["loop.example/intervalsandplaces/impl.basicTable"], apart := false, laid := [("loop.example/intervalsandplaces/impl.basicTable", laid_loop_example_intervalsandplaces_impl_basicTable)], narrowed := true }
def FnExactMirrorRelUptoSaid : Prop := fnExactMirrorRelUptoRow.holds Tryd.pinned (OpenSpec.upto fnExactMirrorRelSpec)

/-- 'laws.FnExactComposeBasic', WHERE WHAT IT READS IS OF BULK AT MOST 1048576: true; the input reads as it did. -/
def fnExactComposeBasicUptoRow : OpenClaim := { program := "ythldegohihkkiaadoor", sum := "b22052cc39f1f84f7e99104d29dd6ba27ebc78952252474ab4362175211dfbd8", func := "loop.example/intervalsandplaces/laws.FnExactComposeBasic", spec := "fnExactComposeBasic", unfollowed := true, recurses := true, named := ["loop.example/intervalsandplaces/impl.basicTable"], apart := false, laid := [("loop.example/intervalsandplaces/impl.basicTable", laid_loop_example_intervalsandplaces_impl_basicTable)], narrowed := true }
def FnExactComposeBasicUptoSaid : Prop := fnExactComposeBasicUptoRow.holds Tryd.pinned (OpenSpec.upto fnExactComposeBasicSpec)

/-- 'laws.FnExactComposeRel', WHERE WHAT IT READS IS OF BULK AT MOST 1048576: true; the input reads as it did. -/
def fnExactComposeRelUptoRow : OpenClaim := { program := "ythldegohihkkiaadoor", sum := "b22052cc39f1f84f7e99104d29dd6ba27ebc78952252474ab4362175211dfbd8", func := "loop.example/intervalsandplaces/laws.FnExactComposeRel", spec := "fnExactComposeRel", unfollowed := true, recurses := true, named := ["loop.example/intervalsandplaces/impl.basicTable"], apart := false, laid := [("loop.example/intervalsandplaces/impl.basicTable", laid_loop_example_intervalsandplaces_impl_basicTable)], narrowed := true }
def FnExactComposeRelUptoSaid : Prop := fnExactComposeRelUptoRow.holds Tryd.pinned (OpenSpec.upto fnExactComposeRelSpec)

/-- 'laws.FnExactNamedRel', WHERE WHAT IT READS IS OF BULK AT MOST 1048576: true; the input reads as it did. -/
def fnExactNamedRelUptoRow : OpenClaim := { program := "ythldegohihkkiaadoor", sum := "b22052cc39f1f84f7e99104d29dd6ba27ebc78952252474ab4362175211dfbd8", func := "loop.example/intervalsandplaces/laws.FnExactNamedRel", spec := "fnExactNamedRel", inPlace := ["internal/abi.NoEscape"], unfollowed := true, recurses := true, named := ["loop.example/intervalsandplaces/impl.namedTable", "loop.example/intervalsandplaces/impl.basicTable"], apart := false, laid := [("loop.example/intervalsandplaces/impl.basicTable", laid_loop_example_intervalsandplaces_impl_basicTable), ("loop.example/intervalsandplaces/impl.namedTable", laid_loop_example_intervalsandplaces_impl_namedTable)], narrowed := true }
def FnExactNamedRelUptoSaid : Prop := fnExactNamedRelUptoRow.holds Tryd.pinned (OpenSpec.upto fnExactNamedRelSpec)

/-- 'laws.FnExactResidualRel', WHERE WHAT IT READS IS OF BULK AT MOST 1048576: true; the input reads as it did. -/
def fnExactResidualRelUptoRow : OpenClaim := { program := "ythldegohihkkiaadoor", sum := "b22052cc39f1f84f7e99104d29dd6ba27ebc78952252474ab4362175211dfbd8", func := "loop.example/intervalsandplaces/laws.FnExactResidualRel", spec := "fnExactResidualRel", unfollowed := true, recurses := true, named := ["loop.example/intervalsandplaces/impl.basicTable"], apart := false, laid := [("loop.example/intervalsandplaces/impl.basicTable", laid_loop_example_intervalsandplaces_impl_basicTable)], narrowed := true }
def FnExactResidualRelUptoSaid : Prop := fnExactResidualRelUptoRow.holds Tryd.pinned (OpenSpec.upto fnExactResidualRelSpec)

end Rows
end Go.Proofs.YthldegohihkkiaaDoor
