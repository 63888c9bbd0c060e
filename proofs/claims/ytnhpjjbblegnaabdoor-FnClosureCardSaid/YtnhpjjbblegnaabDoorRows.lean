/-
  NARROWER THAN 'FOR EVERY INPUT', by the rows' own cells (each row's printed sentence says how): FnConvex: laid · FnPreconvex: laid · FnClosure: laid · FnNextOf: laid · FnSteps: laid · FnEndOrders: laid · FnRelOfOrders: laid · FnNamed: laid · FnRelText: laid · FnComposeBasic: laid.
  DERIVED. THE GIVEN ROWS OF THIS SEAT. 10 by the template 'for every input the law returns true; each argument reads behind the call as it read before'; 0 by the template 'total and deterministic' (their statements: YtnhpjjbblegnaabDoorTotals.lean).
  GIVEN WITH THE SEED: the statements are not yours to turn. If you find one false, say at which input.
  Laid BY PROGRAM, IN A SANDBOX (cutbox-rows.mjs): the forced cells as the released guide's own fill.sh prints them over the translation f48966afc7be7e27… (all of the seat's roots in one cut). By AI agents, Wed Nov 11 2026. No macro, syntax, notation, axiom, sorry.
-/
import Derived.Test.YtnhpjjbblegnaabDoorChecked
import GoSem.Claim
import GoSem.ClaimJoined
import GoSem.ClaimMapViews
import Derived.JoinedTies
import Derived.KernelRfl
namespace Go.Proofs.YtnhpjjbblegnaabDoor
/- THE CELL 'sum', in the pinned program and in every row, IS THE sha256 OF THE DUMP (.gsa) THAT YtnhpjjbblegnaabDoorProg.lean LOADS. Nothing in Lean hashes anything: it is a label: what it is worth is what the hold of that sum in a sandbox is worth. -/
noncomputable def Tryd.pinned : Pinned := { name := "ytnhpjjbblegnaabdoor", sum := "f48966afc7be7e27f3a4ced6e44c11d246de6dbd19c4f85921fd211f7aca4784", checked := Tryd.checked }
namespace Rows
def none {H : Type} : Left H := { results := [], args := [] }

/- WHAT THE LISTED PACKAGE-LEVEL VARIABLES READ AS WHEN THE CALL BEGINS. Each datum BY PROGRAM (the guide's laid-datum.mjs) off the statement by which the dump's own 'gosem.cut.vars' lays the variable. In a bare row this is a premise. The card (YtnhpjjbblegnaabDoorCards.lean) ties it to the program's text. -/
def laid_loop_example_intervalsandplaces_impl_basicTable {H : Type} : DataW H := .agg [.agg [.lit (.string [98]), .lit (.int .i64 0), .lit (.int .i64 0)], .agg [.lit (.string [109]), .lit (.int .i64 0), .lit (.int .i64 1)], .agg [.lit (.string [111]), .lit (.int .i64 0), .lit (.int .i64 2)], .agg [.lit (.string [115]), .lit (.int .i64 1), .lit (.int .i64 2)], .agg [.lit (.string [100]), .lit (.int .i64 2), .lit (.int .i64 2)], .agg [.lit (.string [102]), .lit (.int .i64 2), .lit (.int .i64 3)], .agg [.lit (.string [101]), .lit (.int .i64 1), .lit (.int .i64 3)], .agg [.lit (.string [70]), .lit (.int .i64 0), .lit (.int .i64 3)], .agg [.lit (.string [68]), .lit (.int .i64 0), .lit (.int .i64 4)], .agg [.lit (.string [83]), .lit (.int .i64 1), .lit (.int .i64 4)], .agg [.lit (.string [79]), .lit (.int .i64 2), .lit (.int .i64 4)], .agg [.lit (.string [77]), .lit (.int .i64 3), .lit (.int .i64 4)], .agg [.lit (.string [66]), .lit (.int .i64 4), .lit (.int .i64 4)]]
def laid_loop_example_intervalsandplaces_impl_everyOrder {H : Type} : DataW H := .agg [.lit (.int .i64 1), .lit (.int .i64 2), .lit (.int .i64 4)]
def laid_loop_example_intervalsandplaces_impl_namedTable {H : Type} : DataW H := .agg [.agg [.lit (.string [97, 108, 108]), .lit (.string [98, 109, 111, 115, 100, 102, 101, 70, 68, 83, 79, 77, 66])], .agg [.lit (.string [110, 111, 110, 101]), .lit (.string [45])], .agg [.lit (.string [97, 112, 97, 114, 116]), .lit (.string [98, 109, 77, 66])], .agg [.lit (.string [99, 111, 109, 109, 111, 110]), .lit (.string [111, 115, 100, 102, 101, 70, 68, 83, 79])], .agg [.lit (.string [119, 105, 116, 104, 105, 110]), .lit (.string [115, 100, 102, 101])], .agg [.lit (.string [98, 101, 103, 105, 110, 115]), .lit (.string [115, 101, 83])], .agg [.lit (.string [101, 110, 100, 115]), .lit (.string [102, 101, 70])], .agg [.lit (.string [101, 97, 114, 108, 105, 101, 114]), .lit (.string [98, 109, 111, 70, 68])]]

/-- 'laws.FnConvex': WHATEVER THE INPUT: true; the input reads as it did. -/
def fnConvexSpec : ChangeSpec := { name := "fnConvex", vars := ["loop.example/intervalsandplaces/impl.basicTable"], fn := fun _ => fun
  | [d1, d2, g1] => { results := [.lit (.bool true)], args := [d1, d2], vars := [g1] }
  | _ => none }
def fnConvexRow : OpenClaim := { program := "ytnhpjjbblegnaabdoor", sum := "f48966afc7be7e27f3a4ced6e44c11d246de6dbd19c4f85921fd211f7aca4784", func := "loop.example/intervalsandplaces/laws.FnConvex", spec := "fnConvex", unfollowed := true, recurses := true, named := ["loop.example/intervalsandplaces/impl.basicTable"], apart := false, laid := [("loop.example/intervalsandplaces/impl.basicTable", laid_loop_example_intervalsandplaces_impl_basicTable)] }
def FnConvexSaid : Prop := fnConvexRow.holds Tryd.pinned (OpenSpec.ofChange fnConvexSpec)

/-- ITS FALSE NEIGHBOUR: 'it returns false'. Refute it at one input. -/
def fnConvexWrong : ChangeSpec := { name := "fnConvex", vars := ["loop.example/intervalsandplaces/impl.basicTable"], fn := fun _ => fun
  | [d1, d2, g1] => { results := [.lit (.bool false)], args := [d1, d2], vars := [g1] }
  | _ => none }
def FnConvexWrongFalsely : Prop := fnConvexRow.holds Tryd.pinned (OpenSpec.ofChange fnConvexWrong)

/-- 'laws.FnPreconvex': WHATEVER THE INPUT: true; the input reads as it did. -/
def fnPreconvexSpec : ChangeSpec := { name := "fnPreconvex", vars := ["loop.example/intervalsandplaces/impl.basicTable"], fn := fun _ => fun
  | [d1, d2, g1] => { results := [.lit (.bool true)], args := [d1, d2], vars := [g1] }
  | _ => none }
def fnPreconvexRow : OpenClaim := { program := "ytnhpjjbblegnaabdoor", sum := "f48966afc7be7e27f3a4ced6e44c11d246de6dbd19c4f85921fd211f7aca4784", func := "loop.example/intervalsandplaces/laws.FnPreconvex", spec := "fnPreconvex", unfollowed := true, recurses := true, named := ["loop.example/intervalsandplaces/impl.basicTable"], apart := false, laid := [("loop.example/intervalsandplaces/impl.basicTable", laid_loop_example_intervalsandplaces_impl_basicTable)] }
def FnPreconvexSaid : Prop := fnPreconvexRow.holds Tryd.pinned (OpenSpec.ofChange fnPreconvexSpec)

/-- ITS FALSE NEIGHBOUR: 'it returns false'. Refute it at one input. -/
def fnPreconvexWrong : ChangeSpec := { name := "fnPreconvex", vars := ["loop.example/intervalsandplaces/impl.basicTable"], fn := fun _ => fun
  | [d1, d2, g1] => { results := [.lit (.bool false)], args := [d1, d2], vars := [g1] }
  | _ => none }
def FnPreconvexWrongFalsely : Prop := fnPreconvexRow.holds Tryd.pinned (OpenSpec.ofChange fnPreconvexWrong)

/-- 'laws.FnClosure': WHATEVER THE INPUT: true; the input reads as it did. -/
def fnClosureSpec : ChangeSpec := { name := "fnClosure", vars := ["loop.example/intervalsandplaces/impl.basicTable"], fn := fun _ => fun
  | [d1, d2, g1] => { results := [.lit (.bool true)], args := [d1, d2], vars := [g1] }
  | _ => none }
def fnClosureRow : OpenClaim := { program := "ytnhpjjbblegnaabdoor", sum := "f48966afc7be7e27f3a4ced6e44c11d246de6dbd19c4f85921fd211f7aca4784", func := "loop.example/intervalsandplaces/laws.FnClosure", spec := "fnClosure", unfollowed := true, recurses := true, named := ["loop.example/intervalsandplaces/impl.basicTable"], apart := false, laid := [("loop.example/intervalsandplaces/impl.basicTable", laid_loop_example_intervalsandplaces_impl_basicTable)] }
def FnClosureSaid : Prop := fnClosureRow.holds Tryd.pinned (OpenSpec.ofChange fnClosureSpec)

/-- ITS FALSE NEIGHBOUR: 'it returns false'. Refute it at one input. -/
def fnClosureWrong : ChangeSpec := { name := "fnClosure", vars := ["loop.example/intervalsandplaces/impl.basicTable"], fn := fun _ => fun
  | [d1, d2, g1] => { results := [.lit (.bool false)], args := [d1, d2], vars := [g1] }
  | _ => none }
def FnClosureWrongFalsely : Prop := fnClosureRow.holds Tryd.pinned (OpenSpec.ofChange fnClosureWrong)

/-- 'laws.FnNextOf': WHATEVER THE INPUT: true; the input reads as it did. -/
def fnNextOfSpec : ChangeSpec := { name := "fnNextOf", vars := ["loop.example/intervalsandplaces/impl.basicTable"], fn := fun _ => fun
  | [d1, d2, g1] => { results := [.lit (.bool true)], args := [d1, d2], vars := [g1] }
  | _ => none }
def fnNextOfRow : OpenClaim := { program := "ytnhpjjbblegnaabdoor", sum := "f48966afc7be7e27f3a4ced6e44c11d246de6dbd19c4f85921fd211f7aca4784", func := "loop.example/intervalsandplaces/laws.FnNextOf", spec := "fnNextOf", inPlace := ["internal/abi.NoEscape"], unfollowed := true, recurses := true, named := ["loop.example/intervalsandplaces/impl.basicTable"], apart := false, laid := [("loop.example/intervalsandplaces/impl.basicTable", laid_loop_example_intervalsandplaces_impl_basicTable)] }
def FnNextOfSaid : Prop := fnNextOfRow.holds Tryd.pinned (OpenSpec.ofChange fnNextOfSpec)

/-- ITS FALSE NEIGHBOUR: 'it returns false'. Refute it at one input. -/
def fnNextOfWrong : ChangeSpec := { name := "fnNextOf", vars := ["loop.example/intervalsandplaces/impl.basicTable"], fn := fun _ => fun
  | [d1, d2, g1] => { results := [.lit (.bool false)], args := [d1, d2], vars := [g1] }
  | _ => none }
def FnNextOfWrongFalsely : Prop := fnNextOfRow.holds Tryd.pinned (OpenSpec.ofChange fnNextOfWrong)

/-- 'laws.FnSteps': WHATEVER THE INPUT: true; the input reads as it did. -/
def fnStepsSpec : ChangeSpec := { name := "fnSteps", vars := ["loop.example/intervalsandplaces/impl.basicTable"], fn := fun _ => fun
  | [d1, d2, g1] => { results := [.lit (.bool true)], args := [d1, d2], vars := [g1] }
  | _ => none }
def fnStepsRow : OpenClaim := { program := "ytnhpjjbblegnaabdoor", sum := "f48966afc7be7e27f3a4ced6e44c11d246de6dbd19c4f85921fd211f7aca4784", func := "loop.example/intervalsandplaces/laws.FnSteps", spec := "fnSteps", unfollowed := true, recurses := true, named := ["loop.example/intervalsandplaces/impl.basicTable"], apart := false, laid := [("loop.example/intervalsandplaces/impl.basicTable", laid_loop_example_intervalsandplaces_impl_basicTable)] }
def FnStepsSaid : Prop := fnStepsRow.holds Tryd.pinned (OpenSpec.ofChange fnStepsSpec)

/-- ITS FALSE NEIGHBOUR: 'it returns false'. Refute it at one input. -/
def fnStepsWrong : ChangeSpec := { name := "fnSteps", vars := ["loop.example/intervalsandplaces/impl.basicTable"], fn := fun _ => fun
  | [d1, d2, g1] => { results := [.lit (.bool false)], args := [d1, d2], vars := [g1] }
  | _ => none }
def FnStepsWrongFalsely : Prop := fnStepsRow.holds Tryd.pinned (OpenSpec.ofChange fnStepsWrong)

/-- 'laws.FnEndOrders': WHATEVER THE INPUT: true; the input reads as it did. -/
def fnEndOrdersSpec : ChangeSpec := { name := "fnEndOrders", vars := ["loop.example/intervalsandplaces/impl.basicTable", "loop.example/intervalsandplaces/impl.everyOrder"], fn := fun _ => fun
  | [d1, d2, g1, g2] => { results := [.lit (.bool true)], args := [d1, d2], vars := [g1, g2] }
  | _ => none }
def fnEndOrdersRow : OpenClaim := { program := "ytnhpjjbblegnaabdoor", sum := "f48966afc7be7e27f3a4ced6e44c11d246de6dbd19c4f85921fd211f7aca4784", func := "loop.example/intervalsandplaces/laws.FnEndOrders", spec := "fnEndOrders", unfollowed := true, recurses := true, named := ["loop.example/intervalsandplaces/impl.basicTable", "loop.example/intervalsandplaces/impl.everyOrder"], apart := false, laid := [("loop.example/intervalsandplaces/impl.everyOrder", laid_loop_example_intervalsandplaces_impl_everyOrder), ("loop.example/intervalsandplaces/impl.basicTable", laid_loop_example_intervalsandplaces_impl_basicTable)] }
def FnEndOrdersSaid : Prop := fnEndOrdersRow.holds Tryd.pinned (OpenSpec.ofChange fnEndOrdersSpec)

/-- ITS FALSE NEIGHBOUR: 'it returns false'. Refute it at one input. -/
def fnEndOrdersWrong : ChangeSpec := { name := "fnEndOrders", vars := ["loop.example/intervalsandplaces/impl.basicTable", "loop.example/intervalsandplaces/impl.everyOrder"], fn := fun _ => fun
  | [d1, d2, g1, g2] => { results := [.lit (.bool false)], args := [d1, d2], vars := [g1, g2] }
  | _ => none }
def FnEndOrdersWrongFalsely : Prop := fnEndOrdersRow.holds Tryd.pinned (OpenSpec.ofChange fnEndOrdersWrong)

/-- 'laws.FnRelOfOrders': WHATEVER THE INPUT: true; the input reads as it did. -/
def fnRelOfOrdersSpec : ChangeSpec := { name := "fnRelOfOrders", vars := ["loop.example/intervalsandplaces/impl.basicTable"], fn := fun _ => fun
  | [d1, d2, g1] => { results := [.lit (.bool true)], args := [d1, d2], vars := [g1] }
  | _ => none }
def fnRelOfOrdersRow : OpenClaim := { program := "ytnhpjjbblegnaabdoor", sum := "f48966afc7be7e27f3a4ced6e44c11d246de6dbd19c4f85921fd211f7aca4784", func := "loop.example/intervalsandplaces/laws.FnRelOfOrders", spec := "fnRelOfOrders", unfollowed := true, recurses := true, named := ["loop.example/intervalsandplaces/impl.basicTable"], apart := false, laid := [("loop.example/intervalsandplaces/impl.basicTable", laid_loop_example_intervalsandplaces_impl_basicTable)] }
def FnRelOfOrdersSaid : Prop := fnRelOfOrdersRow.holds Tryd.pinned (OpenSpec.ofChange fnRelOfOrdersSpec)

/-- ITS FALSE NEIGHBOUR: 'it returns false'. Refute it at one input. -/
def fnRelOfOrdersWrong : ChangeSpec := { name := "fnRelOfOrders", vars := ["loop.example/intervalsandplaces/impl.basicTable"], fn := fun _ => fun
  | [d1, d2, g1] => { results := [.lit (.bool false)], args := [d1, d2], vars := [g1] }
  | _ => none }
def FnRelOfOrdersWrongFalsely : Prop := fnRelOfOrdersRow.holds Tryd.pinned (OpenSpec.ofChange fnRelOfOrdersWrong)

/-- 'laws.FnNamed': WHATEVER THE INPUT: true; the input reads as it did. -/
def fnNamedSpec : ChangeSpec := { name := "fnNamed", vars := ["loop.example/intervalsandplaces/impl.namedTable", "loop.example/intervalsandplaces/impl.basicTable"], fn := fun _ => fun
  | [d1, d2, g1, g2] => { results := [.lit (.bool true)], args := [d1, d2], vars := [g1, g2] }
  | _ => none }
def fnNamedRow : OpenClaim := { program := "ytnhpjjbblegnaabdoor", sum := "f48966afc7be7e27f3a4ced6e44c11d246de6dbd19c4f85921fd211f7aca4784", func := "loop.example/intervalsandplaces/laws.FnNamed", spec := "fnNamed", inPlace := ["internal/abi.NoEscape"], unfollowed := true, recurses := true, named := ["loop.example/intervalsandplaces/impl.namedTable", "loop.example/intervalsandplaces/impl.basicTable"], apart := false, laid := [("loop.example/intervalsandplaces/impl.basicTable", laid_loop_example_intervalsandplaces_impl_basicTable), ("loop.example/intervalsandplaces/impl.namedTable", laid_loop_example_intervalsandplaces_impl_namedTable)] }
def FnNamedSaid : Prop := fnNamedRow.holds Tryd.pinned (OpenSpec.ofChange fnNamedSpec)

/-- ITS FALSE NEIGHBOUR: 'it returns false'. Refute it at one input. -/
def fnNamedWrong : ChangeSpec := { name := "fnNamed", vars := ["loop.example/intervalsandplaces/impl.namedTable", "loop.example/intervalsandplaces/impl.basicTable"], fn := fun _ => fun
  | [d1, d2, g1, g2] => { results := [.lit (.bool false)], args := [d1, d2], vars := [g1, g2] }
  | _ => none }
def FnNamedWrongFalsely : Prop := fnNamedRow.holds Tryd.pinned (OpenSpec.ofChange fnNamedWrong)

/-- 'laws.FnRelText': WHATEVER THE INPUT: true; the input reads as it did. -/
def fnRelTextSpec : ChangeSpec := { name := "fnRelText", vars := ["loop.example/intervalsandplaces/impl.basicTable"], fn := fun _ => fun
  | [d1, d2, g1] => { results := [.lit (.bool true)], args := [d1, d2], vars := [g1] }
  | _ => none }
def fnRelTextRow : OpenClaim := { program := "ytnhpjjbblegnaabdoor", sum := "f48966afc7be7e27f3a4ced6e44c11d246de6dbd19c4f85921fd211f7aca4784", func := "loop.example/intervalsandplaces/laws.FnRelText", spec := "fnRelText", inPlace := ["internal/abi.NoEscape"], unfollowed := true, recurses := true, named := ["loop.example/intervalsandplaces/impl.basicTable"], apart := false, laid := [("loop.example/intervalsandplaces/impl.basicTable", laid_loop_example_intervalsandplaces_impl_basicTable)] }
def FnRelTextSaid : Prop := fnRelTextRow.holds Tryd.pinned (OpenSpec.ofChange fnRelTextSpec)

/-- ITS FALSE NEIGHBOUR: 'it returns false'. Refute it at one input. -/
def fnRelTextWrong : ChangeSpec := { name := "fnRelText", vars := ["loop.example/intervalsandplaces/impl.basicTable"], fn := fun _ => fun
  | [d1, d2, g1] => { results := [.lit (.bool false)], args := [d1, d2], vars := [g1] }
  | _ => none }
def FnRelTextWrongFalsely : Prop := fnRelTextRow.holds Tryd.pinned (OpenSpec.ofChange fnRelTextWrong)

/-- 'laws.FnComposeBasic': WHATEVER THE INPUT: true; the input reads as it did. -/
def fnComposeBasicSpec : ChangeSpec := { name := "fnComposeBasic", vars := ["loop.example/intervalsandplaces/impl.basicTable"], fn := fun _ => fun
  | [d1, d2, g1] => { results := [.lit (.bool true)], args := [d1, d2], vars := [g1] }
  | _ => none }
def fnComposeBasicRow : OpenClaim := { program := "ytnhpjjbblegnaabdoor", sum := "f48966afc7be7e27f3a4ced6e44c11d246de6dbd19c4f85921fd211f7aca4784", func := "loop.example/intervalsandplaces/laws.FnComposeBasic", spec := "fnComposeBasic", inPlace := ["internal/abi.NoEscape"], unfollowed := true, recurses := true, named := ["loop.example/intervalsandplaces/impl.basicTable"], apart := false, laid := [("loop.example/intervalsandplaces/impl.basicTable", laid_loop_example_intervalsandplaces_impl_basicTable)] }
def FnComposeBasicSaid : Prop := fnComposeBasicRow.holds Tryd.pinned (OpenSpec.ofChange fnComposeBasicSpec)

/-- ITS FALSE NEIGHBOUR: 'it returns false'. Refute it at one input. -/
def fnComposeBasicWrong : ChangeSpec := { name := "fnComposeBasic", vars := ["loop.example/intervalsandplaces/impl.basicTable"], fn := fun _ => fun
  | [d1, d2, g1] => { results := [.lit (.bool false)], args := [d1, d2], vars := [g1] }
  | _ => none }
def FnComposeBasicWrongFalsely : Prop := fnComposeBasicRow.holds Tryd.pinned (OpenSpec.ofChange fnComposeBasicWrong)

/- THE SECOND FORM. 'bulk': how many values and letters a reading holds, each counted each time it is reached (what is shared counts as often as it is met; a slice's spare places count too). A statement '..UptoSaid' is the law's where the arguments, and the package variables that the reading takes, are together of bulk at most 1048576: NARROWER than '..Said'. Prove '..Said' where nothing that the law and all that it calls make is longer than what came in: it says more and counts as full. Else prove '..UptoSaid'. A law counts once. -/
mutual
def uptoBulk {H : Type} : DataW H → Nat
  | .lit (.string bytes) => bytes.length + 1
  | .lit _ => 1
  | .nil => 1
  | .ptr d => uptoBulk d + 1
  | .slice elems spare => uptoBulkAll elems + uptoBulkAll spare + 1
  | .agg parts => uptoBulkAll parts + 1
  | .iface _ d => uptoBulk d + 1
  | .map entries => uptoBulkEntries entries + 1
  | .held _ => 1
def uptoBulkAll {H : Type} : List (DataW H) → Nat
  | [] => 0
  | d :: r => uptoBulk d + uptoBulkAll r
def uptoBulkEntries {H : Type} : List (Lit × DataW H) → Nat
  | [] => 0
  | x :: r => uptoBulkEntry x + uptoBulkEntries r
def uptoBulkEntry {H : Type} : Lit × DataW H → Nat
  | (.string bytes, d) => bytes.length + uptoBulk d + 1
  | (_, d) => uptoBulk d + 1
 end
def uptoSmall : (H : Type) → List (DataW H) → Bool := fun _ ds => decide (uptoBulkAll ds ≤ 1048576)
def OpenSpec.upto (s : _root_.Go.ChangeSpec) : _root_.Go.OpenSpec := { _root_.Go.OpenSpec.ofChange s with cond := some uptoSmall }

/-- 'laws.FnConvex', WHERE WHAT IT READS IS OF BULK AT MOST 1048576: true; the input reads as it did. -/
def fnConvexUptoRow : OpenClaim := { program := "ytnhpjjbblegnaabdoor", sum := "f48966afc7be7e27f3a4ced6e44c11d246de6dbd19c4f85921fd211f7aca4784", func := "loop.example/intervalsandplaces/laws.FnConvex", spec := "fnConvex", unfollowed := true, recurses := true, named := ["loop.example/intervalsandplaces/impl.basicTable"], apart := false, laid := [("loop.example/intervalsandplaces/impl.basicTable", laid_loop_example_intervalsandplaces_impl_basicTable)], narrowed := true }
def FnConvexUptoSaid : Prop := fnConvexUptoRow.holds Tryd.pinned (OpenSpec.upto fnConvexSpec)

/-- 'laws.FnPreconvex', WHERE WHAT IT READS IS OF BULK AT MOST 1048576: true; the input reads as it did. -/
def fnPreconvexUptoRow : OpenClaim := { program := "ytnhpjjbblegnaabdoor", sum := "f48966afc7be7e27f3a4ced6e44c11d246de6dbd19c4f85921fd211f7aca4784", func := "loop.example/intervalsandplaces/laws.FnPreconvex", spec := "fnPreconvex", unfollowed := true, recurses := true, named := ["loop.example/intervalsandplaces/impl.basicTable"], apart := false, laid := [("loop.example/intervalsandplaces/impl.basicTable", laid_loop_example_intervalsandplaces_impl_basicTable)], narrowed := true }
def FnPreconvexUptoSaid : Prop := fnPreconvexUptoRow.holds Tryd.pinned (OpenSpec.upto fnPreconvexSpec)

/-- 'laws.FnClosure', WHERE WHAT IT READS IS OF BULK AT MOST 1048576: true; the input reads as it did. -/
def fnClosureUptoRow : OpenClaim := { program := "ytnhpjjbblegnaabdoor", sum := "f48966afc7be7e27f3a4ced6e44c11d246de6dbd19c4f85921fd211f7aca4784", func := "loop.example/intervalsandplaces/laws.FnClosure", spec := "fnClosure", unfollowed := true, recurses := true, named := ["loop.example/intervalsandplaces/impl.basicTable"], apart := false, laid := [("loop.example/intervalsandplaces/impl.basicTable", laid_loop_example_intervalsandplaces_impl_basicTable)], narrowed := true }
def FnClosureUptoSaid : Prop := fnClosureUptoRow.holds Tryd.pinned (OpenSpec.upto fnClosureSpec)

/-- 'laws.FnNextOf', WHERE WHAT IT READS IS OF BULK AT MOST 1048576: true; the input reads as it did. -/
def fnNextOfUptoRow : OpenClaim := { program := "ytnhpjjbblegnaabdoor", sum := "f48966afc7be7e27f3a4ced6e44c11d246de6dbd19c4f85921fd211f7aca4784", func := "loop.example/intervalsandplaces/laws.FnNextOf", spec := "fnNextOf", inPlace := ["internal/abi.NoEscape"], unfollowed := true, recurses := true, named := ["loop.example/intervalsandplaces/impl.basicTable"], apart := false, laid := [("loop.example/intervalsandplaces/impl.basicTable", laid_loop_example_intervalsandplaces_impl_basicTable)], narrowed := true }
def FnNextOfUptoSaid : Prop := fnNextOfUptoRow.holds Tryd.pinned (OpenSpec.upto fnNextOfSpec)

/-- 'laws.FnSteps', WHERE WHAT IT READS IS OF BULK AT MOST 1048576: true; the input reads as it did. -/
def fnStepsUptoRow : OpenClaim := { program := "ytnhpjjbblegnaabdoor", sum := "f48966afc7be7e27f3a4ced6e44c11d246de6dbd19c4f85921fd211f7aca4784", func := "loop.example/intervalsandplaces/laws.FnSteps", spec := "fnSteps", unfollowed := true, recurses := true, named := ["loop.example/intervalsandplaces/impl.basicTable"], apart := false, laid := [("loop.example/intervalsandplaces/impl.basicTable", laid_loop_example_intervalsandplaces_impl_basicTable)], narrowed := true }
def FnStepsUptoSaid : Prop := fnStepsUptoRow.holds Tryd.pinned (OpenSpec.upto fnStepsSpec)

/-- 'laws.FnEndOrders', WHERE WHAT IT READS IS OF BULK AT MOST 1048576: true; the input reads as it did. -/
def fnEndOrdersUptoRow : OpenClaim := { program := "ytnhpjjbblegnaabdoor", sum := "f48966afc7be7e27f3a4ced6e44c11d246de6dbd19c4f85921fd211f7aca4784", func := "loop.example/intervalsandplaces/laws.FnEndOrders", spec := "fnEndOrders", unfollowed := true, recurses := true, named := ["loop.example/intervalsandplaces/impl.basicTable", "loop.example/intervalsandplaces/impl.everyOrder"], apart := false, laid := [("loop.example/intervalsandplaces/impl.everyOrder", laid_loop_example_intervalsandplaces_impl_everyOrder), ("loop.example/intervalsandplaces/impl.basicTable", laid_loop_example_intervalsandplaces_impl_basicTable)], narrowed := true }
def FnEndOrdersUptoSaid : Prop := fnEndOrdersUptoRow.holds Tryd.pinned (OpenSpec.upto fnEndOrdersSpec)

/-- 'laws.FnRelOfOrders', WHERE WHAT IT READS IS OF BULK AT MOST 1048576: true; the input reads as it did. -/
def fnRelOfOrdersUptoRow : OpenClaim := { program := "ytnhpjjbblegnaabdoor", sum := "f48966afc7be7e27f3a4ced6e44c11d246de6dbd19c4f85921fd211f7aca4784", func := "loop.example/intervalsandplaces/laws.FnRelOfOrders", spec := "fnRelOfOrders", unfollowed := true, recurses := true, named := ["loop.example/intervalsandplaces/impl.basicTable"], apart := false, laid := [("loop.example/intervalsandplaces/impl.basicTable", laid_loop_example_intervalsandplaces_impl_basicTable)], narrowed := true }
def FnRelOfOrdersUptoSaid : Prop := fnRelOfOrdersUptoRow.holds Tryd.pinned (OpenSpec.upto fnRelOfOrdersSpec)

/-- 'laws.FnNamed', WHERE WHAT IT READS IS OF BULK AT MOST 1048576: true; the input reads as it did. -/
def fnNamedUptoRow : OpenClaim := { program := "ytnhpjjbblegnaabdoor", sum := "f48966afc7be7e27f3a4ced6e44c11d246de6dbd19c4f85921fd211f7aca4784", func := "loop.example/intervalsandplaces/laws.FnNamed", spec := "fnNamed", inPlace := ["internal/abi.NoEscape"], unfollowed := true, recurses := true, named := ["loop.example/intervalsandplaces/impl.namedTable", "loop.example/intervalsandplaces/impl.basicTable"], apart := false, laid := [("loop.example/intervalsandplaces/impl.basicTable", laid_loop_example_intervalsandplaces_impl_basicTable), ("loop.example/intervalsandplaces/impl.namedTable", laid_loop_example_intervalsandplaces_impl_namedTable)], narrowed := true }
def FnNamedUptoSaid : Prop := fnNamedUptoRow.holds Tryd.pinned (OpenSpec.upto fnNamedSpec)

/-- 'laws.FnRelText', WHERE WHAT IT READS IS OF BULK AT MOST 1048576: true; the input reads as it did. -/
def fnRelTextUptoRow : OpenClaim := { program := "ytnhpjjbblegnaabdoor", sum := "f48966afc7be7e27f3a4ced6e44c11d246de6dbd19c4f85921fd211f7aca4784", func := "loop.example/intervalsandplaces/laws.FnRelText", spec := "fnRelText", inPlace := ["internal/abi.NoEscape"], unfollowed := true, recurses := true, named := ["loop.example/intervalsandplaces/impl.basicTable"], apart := false, laid := [("loop.example/intervalsandplaces/impl.basicTable", laid_loop_example_intervalsandplaces_impl_basicTable)], narrowed := true }
def FnRelTextUptoSaid : Prop := fnRelTextUptoRow.holds Tryd.pinned (OpenSpec.upto fnRelTextSpec)

/-- 'laws.FnComposeBasic', WHERE WHAT IT READS IS OF BULK AT MOST 1048576: true; the input reads as it did. -/
def fnComposeBasicUptoRow : OpenClaim := { program := "ytnhpjjbblegnaabdoor", sum := "f48966afc7be7e27f3a4ced6e44c11d246de6dbd19c4f85921fd211f7aca4784", func := "loop.example/intervalsandplaces/laws.FnComposeBasic", spec := "fnComposeBasic", inPlace := ["internal/abi.NoEscape"], unfollowed := true, recurses := true, named := ["loop.example/intervalsandplaces/impl.basicTable"], apart := false, laid := [("loop.example/intervalsandplaces/impl.basicTable", laid_loop_example_intervalsandplaces_impl_basicTable)], narrowed := true }
def FnComposeBasicUptoSaid : Prop := fnComposeBasicUptoRow.holds Tryd.pinned (OpenSpec.upto fnComposeBasicSpec)

end Rows
end Go.Proofs.YtnhpjjbblegnaabDoor
