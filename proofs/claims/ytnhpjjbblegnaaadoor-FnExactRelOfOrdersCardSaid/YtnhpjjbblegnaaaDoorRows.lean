/-
  NARROWER THAN 'FOR EVERY INPUT', by the rows' own cells (each row's printed sentence says how): FnExactConvexHull: laid · FnExactIsConvex: laid · FnExactDimensionOf: laid · FnExactClosureOf: laid · FnExactIsPreconvex: laid · FnExactNextOf: laid · FnExactStepsBetween: laid · FnExactEndOrders: laid · FnExactRelOfOrders: laid · FnExactIsPointable: laid.
  DERIVED. THE GIVEN ROWS OF THIS SEAT. 10 by the template 'for every input the law returns true; each argument reads behind the call as it read before'; 0 by the template 'total and deterministic' (their statements: YtnhpjjbblegnaaaDoorTotals.lean).
  GIVEN WITH THE SEED: the statements are not yours to turn. If you find one false, say at which input.
  Laid BY PROGRAM, IN A SANDBOX (cutbox-rows.mjs): the forced cells as the released guide's own fill.sh prints them over the translation 30e01ca0c608433c… (all of the seat's roots in one cut). By AI agents, Wed Nov 11 2026. No macro, syntax, notation, axiom, sorry.
-/
import Derived.Test.YtnhpjjbblegnaaaDoorChecked
import GoSem.Claim
import GoSem.ClaimJoined
import GoSem.ClaimMapViews
import Derived.JoinedTies
import Derived.KernelRfl
namespace Go.Proofs.YtnhpjjbblegnaaaDoor
/- THE CELL 'sum', in the pinned program and in every row, IS THE sha256 OF THE DUMP (.gsa) THAT YtnhpjjbblegnaaaDoorProg.lean LOADS. Nothing in Lean hashes anything: it is a label: what it is worth is what the hold of that sum in a sandbox is worth. -/
noncomputable def Tryd.pinned : Pinned := { name := "ytnhpjjbblegnaaadoor", sum := "30e01ca0c608433c84ba967b27394a918d114a251953bceb19d608fdbf0ad233", checked := Tryd.checked }
namespace Rows
def none {H : Type} : Left H := { results := [], args := [] }

/- WHAT THE LISTED PACKAGE-LEVEL VARIABLES READ AS WHEN THE CALL BEGINS. Each datum BY PROGRAM (the guide's laid-datum.mjs) off the statement by which the dump's own 'gosem.cut.vars' lays the variable. In a bare row this is a premise. The card (YtnhpjjbblegnaaaDoorCards.lean) ties it to the program's text. -/
def laid_loop_example_intervalsandplaces_impl_basicTable {H : Type} : DataW H := .agg [.agg [.lit (.string [98]), .lit (.int .i64 0), .lit (.int .i64 0)], .agg [.lit (.string [109]), .lit (.int .i64 0), .lit (.int .i64 1)], .agg [.lit (.string [111]), .lit (.int .i64 0), .lit (.int .i64 2)], .agg [.lit (.string [115]), .lit (.int .i64 1), .lit (.int .i64 2)], .agg [.lit (.string [100]), .lit (.int .i64 2), .lit (.int .i64 2)], .agg [.lit (.string [102]), .lit (.int .i64 2), .lit (.int .i64 3)], .agg [.lit (.string [101]), .lit (.int .i64 1), .lit (.int .i64 3)], .agg [.lit (.string [70]), .lit (.int .i64 0), .lit (.int .i64 3)], .agg [.lit (.string [68]), .lit (.int .i64 0), .lit (.int .i64 4)], .agg [.lit (.string [83]), .lit (.int .i64 1), .lit (.int .i64 4)], .agg [.lit (.string [79]), .lit (.int .i64 2), .lit (.int .i64 4)], .agg [.lit (.string [77]), .lit (.int .i64 3), .lit (.int .i64 4)], .agg [.lit (.string [66]), .lit (.int .i64 4), .lit (.int .i64 4)]]

/-- 'laws.FnExactConvexHull': WHATEVER THE INPUT: true; the input reads as it did. -/
def fnExactConvexHullSpec : ChangeSpec := { name := "fnExactConvexHull", vars := ["loop.example/intervalsandplaces/impl.basicTable"], fn := fun _ => fun
  | [d, g1] => { results := [.lit (.bool true)], args := [d], vars := [g1] }
  | _ => none }
def fnExactConvexHullRow : OpenClaim := { program := "ytnhpjjbblegnaaadoor", sum := "30e01ca0c608433c84ba967b27394a918d114a251953bceb19d608fdbf0ad233", func := "loop.example/intervalsandplaces/laws.FnExactConvexHull", spec := "fnExactConvexHull", unfollowed := true, recurses := true, named := ["loop.example/intervalsandplaces/impl.basicTable"], apart := false, laid := [("loop.example/intervalsandplaces/impl.basicTable", laid_loop_example_intervalsandplaces_impl_basicTable)] }
def FnExactConvexHullSaid : Prop := fnExactConvexHullRow.holds Tryd.pinned (OpenSpec.ofChange fnExactConvexHullSpec)

/-- ITS FALSE NEIGHBOUR: 'it returns false'. Refute it at one input. -/
def fnExactConvexHullWrong : ChangeSpec := { name := "fnExactConvexHull", vars := ["loop.example/intervalsandplaces/impl.basicTable"], fn := fun _ => fun
  | [d, g1] => { results := [.lit (.bool false)], args := [d], vars := [g1] }
  | _ => none }
def FnExactConvexHullWrongFalsely : Prop := fnExactConvexHullRow.holds Tryd.pinned (OpenSpec.ofChange fnExactConvexHullWrong)

/-- 'laws.FnExactIsConvex': WHATEVER THE INPUT: true; the input reads as it did. -/
def fnExactIsConvexSpec : ChangeSpec := { name := "fnExactIsConvex", vars := ["loop.example/intervalsandplaces/impl.basicTable"], fn := fun _ => fun
  | [d, g1] => { results := [.lit (.bool true)], args := [d], vars := [g1] }
  | _ => none }
def fnExactIsConvexRow : OpenClaim := { program := "ytnhpjjbblegnaaadoor", sum := "30e01ca0c608433c84ba967b27394a918d114a251953bceb19d608fdbf0ad233", func := "loop.example/intervalsandplaces/laws.FnExactIsConvex", spec := "fnExactIsConvex", unfollowed := true, recurses := true, named := ["loop.example/intervalsandplaces/impl.basicTable"], apart := false, laid := [("loop.example/intervalsandplaces/impl.basicTable", laid_loop_example_intervalsandplaces_impl_basicTable)] }
def FnExactIsConvexSaid : Prop := fnExactIsConvexRow.holds Tryd.pinned (OpenSpec.ofChange fnExactIsConvexSpec)

/-- ITS FALSE NEIGHBOUR: 'it returns false'. Refute it at one input. -/
def fnExactIsConvexWrong : ChangeSpec := { name := "fnExactIsConvex", vars := ["loop.example/intervalsandplaces/impl.basicTable"], fn := fun _ => fun
  | [d, g1] => { results := [.lit (.bool false)], args := [d], vars := [g1] }
  | _ => none }
def FnExactIsConvexWrongFalsely : Prop := fnExactIsConvexRow.holds Tryd.pinned (OpenSpec.ofChange fnExactIsConvexWrong)

/-- 'laws.FnExactDimensionOf': WHATEVER THE INPUT: true; the input reads as it did. -/
def fnExactDimensionOfSpec : ChangeSpec := { name := "fnExactDimensionOf", vars := ["loop.example/intervalsandplaces/impl.basicTable"], fn := fun _ => fun
  | [d, g1] => { results := [.lit (.bool true)], args := [d], vars := [g1] }
  | _ => none }
def fnExactDimensionOfRow : OpenClaim := { program := "ytnhpjjbblegnaaadoor", sum := "30e01ca0c608433c84ba967b27394a918d114a251953bceb19d608fdbf0ad233", func := "loop.example/intervalsandplaces/laws.FnExactDimensionOf", spec := "fnExactDimensionOf", unfollowed := true, recurses := true, named := ["loop.example/intervalsandplaces/impl.basicTable"], apart := false, laid := [("loop.example/intervalsandplaces/impl.basicTable", laid_loop_example_intervalsandplaces_impl_basicTable)] }
def FnExactDimensionOfSaid : Prop := fnExactDimensionOfRow.holds Tryd.pinned (OpenSpec.ofChange fnExactDimensionOfSpec)

/-- ITS FALSE NEIGHBOUR: 'it returns false'. Refute it at one input. -/
def fnExactDimensionOfWrong : ChangeSpec := { name := "fnExactDimensionOf", vars := ["loop.example/intervalsandplaces/impl.basicTable"], fn := fun _ => fun
  | [d, g1] => { results := [.lit (.bool false)], args := [d], vars := [g1] }
  | _ => none }
def FnExactDimensionOfWrongFalsely : Prop := fnExactDimensionOfRow.holds Tryd.pinned (OpenSpec.ofChange fnExactDimensionOfWrong)

/-- 'laws.FnExactClosureOf': WHATEVER THE INPUT: true; the input reads as it did. -/
def fnExactClosureOfSpec : ChangeSpec := { name := "fnExactClosureOf", vars := ["loop.example/intervalsandplaces/impl.basicTable"], fn := fun _ => fun
  | [d, g1] => { results := [.lit (.bool true)], args := [d], vars := [g1] }
  | _ => none }
def fnExactClosureOfRow : OpenClaim := { program := "ytnhpjjbblegnaaadoor", sum := "30e01ca0c608433c84ba967b27394a918d114a251953bceb19d608fdbf0ad233", func := "loop.example/intervalsandplaces/laws.FnExactClosureOf", spec := "fnExactClosureOf", unfollowed := true, recurses := true, named := ["loop.example/intervalsandplaces/impl.basicTable"], apart := false, laid := [("loop.example/intervalsandplaces/impl.basicTable", laid_loop_example_intervalsandplaces_impl_basicTable)] }
def FnExactClosureOfSaid : Prop := fnExactClosureOfRow.holds Tryd.pinned (OpenSpec.ofChange fnExactClosureOfSpec)

/-- ITS FALSE NEIGHBOUR: 'it returns false'. Refute it at one input. -/
def fnExactClosureOfWrong : ChangeSpec := { name := "fnExactClosureOf", vars := ["loop.example/intervalsandplaces/impl.basicTable"], fn := fun _ => fun
  | [d, g1] => { results := [.lit (.bool false)], args := [d], vars := [g1] }
  | _ => none }
def FnExactClosureOfWrongFalsely : Prop := fnExactClosureOfRow.holds Tryd.pinned (OpenSpec.ofChange fnExactClosureOfWrong)

/-- 'laws.FnExactIsPreconvex': WHATEVER THE INPUT: true; the input reads as it did. -/
def fnExactIsPreconvexSpec : ChangeSpec := { name := "fnExactIsPreconvex", vars := ["loop.example/intervalsandplaces/impl.basicTable"], fn := fun _ => fun
  | [d, g1] => { results := [.lit (.bool true)], args := [d], vars := [g1] }
  | _ => none }
def fnExactIsPreconvexRow : OpenClaim := { program := "ytnhpjjbblegnaaadoor", sum := "30e01ca0c608433c84ba967b27394a918d114a251953bceb19d608fdbf0ad233", func := "loop.example/intervalsandplaces/laws.FnExactIsPreconvex", spec := "fnExactIsPreconvex", unfollowed := true, recurses := true, named := ["loop.example/intervalsandplaces/impl.basicTable"], apart := false, laid := [("loop.example/intervalsandplaces/impl.basicTable", laid_loop_example_intervalsandplaces_impl_basicTable)] }
def FnExactIsPreconvexSaid : Prop := fnExactIsPreconvexRow.holds Tryd.pinned (OpenSpec.ofChange fnExactIsPreconvexSpec)

/-- ITS FALSE NEIGHBOUR: 'it returns false'. Refute it at one input. -/
def fnExactIsPreconvexWrong : ChangeSpec := { name := "fnExactIsPreconvex", vars := ["loop.example/intervalsandplaces/impl.basicTable"], fn := fun _ => fun
  | [d, g1] => { results := [.lit (.bool false)], args := [d], vars := [g1] }
  | _ => none }
def FnExactIsPreconvexWrongFalsely : Prop := fnExactIsPreconvexRow.holds Tryd.pinned (OpenSpec.ofChange fnExactIsPreconvexWrong)

/-- 'laws.FnExactNextOf': WHATEVER THE INPUT: true; the input reads as it did. -/
def fnExactNextOfSpec : ChangeSpec := { name := "fnExactNextOf", vars := ["loop.example/intervalsandplaces/impl.basicTable"], fn := fun _ => fun
  | [d, g1] => { results := [.lit (.bool true)], args := [d], vars := [g1] }
  | _ => none }
def fnExactNextOfRow : OpenClaim := { program := "ytnhpjjbblegnaaadoor", sum := "30e01ca0c608433c84ba967b27394a918d114a251953bceb19d608fdbf0ad233", func := "loop.example/intervalsandplaces/laws.FnExactNextOf", spec := "fnExactNextOf", unfollowed := true, recurses := true, named := ["loop.example/intervalsandplaces/impl.basicTable"], apart := false, laid := [("loop.example/intervalsandplaces/impl.basicTable", laid_loop_example_intervalsandplaces_impl_basicTable)] }
def FnExactNextOfSaid : Prop := fnExactNextOfRow.holds Tryd.pinned (OpenSpec.ofChange fnExactNextOfSpec)

/-- ITS FALSE NEIGHBOUR: 'it returns false'. Refute it at one input. -/
def fnExactNextOfWrong : ChangeSpec := { name := "fnExactNextOf", vars := ["loop.example/intervalsandplaces/impl.basicTable"], fn := fun _ => fun
  | [d, g1] => { results := [.lit (.bool false)], args := [d], vars := [g1] }
  | _ => none }
def FnExactNextOfWrongFalsely : Prop := fnExactNextOfRow.holds Tryd.pinned (OpenSpec.ofChange fnExactNextOfWrong)

/-- 'laws.FnExactStepsBetween': WHATEVER THE INPUT: true; the input reads as it did. -/
def fnExactStepsBetweenSpec : ChangeSpec := { name := "fnExactStepsBetween", vars := ["loop.example/intervalsandplaces/impl.basicTable"], fn := fun _ => fun
  | [d1, d2, g1] => { results := [.lit (.bool true)], args := [d1, d2], vars := [g1] }
  | _ => none }
def fnExactStepsBetweenRow : OpenClaim := { program := "ytnhpjjbblegnaaadoor", sum := "30e01ca0c608433c84ba967b27394a918d114a251953bceb19d608fdbf0ad233", func := "loop.example/intervalsandplaces/laws.FnExactStepsBetween", spec := "fnExactStepsBetween", unfollowed := true, recurses := true, named := ["loop.example/intervalsandplaces/impl.basicTable"], apart := false, laid := [("loop.example/intervalsandplaces/impl.basicTable", laid_loop_example_intervalsandplaces_impl_basicTable)] }
def FnExactStepsBetweenSaid : Prop := fnExactStepsBetweenRow.holds Tryd.pinned (OpenSpec.ofChange fnExactStepsBetweenSpec)

/-- ITS FALSE NEIGHBOUR: 'it returns false'. Refute it at one input. -/
def fnExactStepsBetweenWrong : ChangeSpec := { name := "fnExactStepsBetween", vars := ["loop.example/intervalsandplaces/impl.basicTable"], fn := fun _ => fun
  | [d1, d2, g1] => { results := [.lit (.bool false)], args := [d1, d2], vars := [g1] }
  | _ => none }
def FnExactStepsBetweenWrongFalsely : Prop := fnExactStepsBetweenRow.holds Tryd.pinned (OpenSpec.ofChange fnExactStepsBetweenWrong)

/-- 'laws.FnExactEndOrders': WHATEVER THE INPUT: true; the input reads as it did. -/
def fnExactEndOrdersSpec : ChangeSpec := { name := "fnExactEndOrders", vars := ["loop.example/intervalsandplaces/impl.basicTable"], fn := fun _ => fun
  | [d, g1] => { results := [.lit (.bool true)], args := [d], vars := [g1] }
  | _ => none }
def fnExactEndOrdersRow : OpenClaim := { program := "ytnhpjjbblegnaaadoor", sum := "30e01ca0c608433c84ba967b27394a918d114a251953bceb19d608fdbf0ad233", func := "loop.example/intervalsandplaces/laws.FnExactEndOrders", spec := "fnExactEndOrders", unfollowed := true, recurses := true, named := ["loop.example/intervalsandplaces/impl.basicTable"], apart := false, laid := [("loop.example/intervalsandplaces/impl.basicTable", laid_loop_example_intervalsandplaces_impl_basicTable)] }
def FnExactEndOrdersSaid : Prop := fnExactEndOrdersRow.holds Tryd.pinned (OpenSpec.ofChange fnExactEndOrdersSpec)

/-- ITS FALSE NEIGHBOUR: 'it returns false'. Refute it at one input. -/
def fnExactEndOrdersWrong : ChangeSpec := { name := "fnExactEndOrders", vars := ["loop.example/intervalsandplaces/impl.basicTable"], fn := fun _ => fun
  | [d, g1] => { results := [.lit (.bool false)], args := [d], vars := [g1] }
  | _ => none }
def FnExactEndOrdersWrongFalsely : Prop := fnExactEndOrdersRow.holds Tryd.pinned (OpenSpec.ofChange fnExactEndOrdersWrong)

/-- 'laws.FnExactRelOfOrders': WHATEVER THE INPUT: true; the input reads as it did. -/
def fnExactRelOfOrdersSpec : ChangeSpec := { name := "fnExactRelOfOrders", vars := ["loop.example/intervalsandplaces/impl.basicTable"], fn := fun _ => fun
  | [d, g1] => { results := [.lit (.bool true)], args := [d], vars := [g1] }
  | _ => none }
def fnExactRelOfOrdersRow : OpenClaim := { program := "ytnhpjjbblegnaaadoor", sum := "30e01ca0c608433c84ba967b27394a918d114a251953bceb19d608fdbf0ad233", func := "loop.example/intervalsandplaces/laws.FnExactRelOfOrders", spec := "fnExactRelOfOrders", unfollowed := true, recurses := true, named := ["loop.example/intervalsandplaces/impl.basicTable"], apart := false, laid := [("loop.example/intervalsandplaces/impl.basicTable", laid_loop_example_intervalsandplaces_impl_basicTable)] }
def FnExactRelOfOrdersSaid : Prop := fnExactRelOfOrdersRow.holds Tryd.pinned (OpenSpec.ofChange fnExactRelOfOrdersSpec)

/-- ITS FALSE NEIGHBOUR: 'it returns false'. Refute it at one input. -/
def fnExactRelOfOrdersWrong : ChangeSpec := { name := "fnExactRelOfOrders", vars := ["loop.example/intervalsandplaces/impl.basicTable"], fn := fun _ => fun
  | [d, g1] => { results := [.lit (.bool false)], args := [d], vars := [g1] }
  | _ => none }
def FnExactRelOfOrdersWrongFalsely : Prop := fnExactRelOfOrdersRow.holds Tryd.pinned (OpenSpec.ofChange fnExactRelOfOrdersWrong)

/-- 'laws.FnExactIsPointable': WHATEVER THE INPUT: true; the input reads as it did. -/
def fnExactIsPointableSpec : ChangeSpec := { name := "fnExactIsPointable", vars := ["loop.example/intervalsandplaces/impl.basicTable"], fn := fun _ => fun
  | [d, g1] => { results := [.lit (.bool true)], args := [d], vars := [g1] }
  | _ => none }
def fnExactIsPointableRow : OpenClaim := { program := "ytnhpjjbblegnaaadoor", sum := "30e01ca0c608433c84ba967b27394a918d114a251953bceb19d608fdbf0ad233", func := "loop.example/intervalsandplaces/laws.FnExactIsPointable", spec := "fnExactIsPointable", unfollowed := true, recurses := true, named := ["loop.example/intervalsandplaces/impl.basicTable"], apart := false, laid := [("loop.example/intervalsandplaces/impl.basicTable", laid_loop_example_intervalsandplaces_impl_basicTable)] }
def FnExactIsPointableSaid : Prop := fnExactIsPointableRow.holds Tryd.pinned (OpenSpec.ofChange fnExactIsPointableSpec)

/-- ITS FALSE NEIGHBOUR: 'it returns false'. Refute it at one input. -/
def fnExactIsPointableWrong : ChangeSpec := { name := "fnExactIsPointable", vars := ["loop.example/intervalsandplaces/impl.basicTable"], fn := fun _ => fun
  | [d, g1] => { results := [.lit (.bool false)], args := [d], vars := [g1] }
  | _ => none }
def FnExactIsPointableWrongFalsely : Prop := fnExactIsPointableRow.holds Tryd.pinned (OpenSpec.ofChange fnExactIsPointableWrong)

/- THE SECOND FORM. 'bulk': how many values and letters a reading holds, each counted each time it is reached (what is shared counts as often as it is met; a slice's spare places count too). A statement '..UptoSaid' is the law's where the arguments, and the package variables that the reading takes, are together of bulk at most 1048576: NARROWER than '..Said'. Prove '..Said' where nothing that the law and all that it calls make is longer than what came in: it says more and counts as full. Else prove '..UptoSaid'. A law counts once. -/
mutual
def uptoBulk {H : Type} : DataW H → Nat
  | .lit (.string bytes) => bytes.length + 1
  | .lit _ => 1
  | .nil => 1
  | .ptr d => uptoBulk d + 1
  | .slice elems spare => uptoBulkAll elems + uptoBulkAll spare + 1
  | .agg parts => uptoBulkAll parts + 1
  | .iface _ d => uptoBulk d + 1
  | .map entries => uptoBulkEntries entries + 1
  | .held _ => 1
def uptoBulkAll {H : Type} : List (DataW H) → Nat
  | [] => 0
  | d :: r => uptoBulk d + uptoBulkAll r
def uptoBulkEntries {H : Type} : List (Lit × DataW H) → Nat
  | [] => 0
  | x :: r => uptoBulkEntry x + uptoBulkEntries r
def uptoBulkEntry {H : Type} : Lit × DataW H → Nat
  | (.string bytes, d) => bytes.length + uptoBulk d + 1
  | (_, d) => uptoBulk d + 1
 end
def uptoSmall : (H : Type) → List (DataW H) → Bool := fun _ ds => decide (uptoBulkAll ds ≤ 1048576)
def OpenSpec.upto (s : _root_.Go.ChangeSpec) : _root_.Go.OpenSpec := { _root_.Go.OpenSpec.ofChange s with cond := some uptoSmall }

/-- 'laws.FnExactConvexHull', WHERE WHAT IT READS IS OF BULK AT MOST 1048576: true; the input reads as it did. -/
def fnExactConvexHullUptoRow : OpenClaim := { program := "ytnhpjjbblegnaaadoor", sum := "30e01ca0c608433c84ba967b27394a918d114a251953bceb19d608fdbf0ad233", func := "loop.example/intervalsandplaces/laws.FnExactConvexHull", spec := "fnExactConvexHull", unfollowed := true, recurses := true, named := ["loop.example/intervalsandplaces/impl.basicTable"], apart := false, laid := [("loop.example/intervalsandplaces/impl.basicTable", laid_loop_example_intervalsandplaces_impl_basicTable)], narrowed := true }
def FnExactConvexHullUptoSaid : Prop := fnExactConvexHullUptoRow.holds Tryd.pinned (OpenSpec.upto fnExactConvexHullSpec)

/-- 'laws.FnExactIsConvex', WHERE WHAT IT READS IS OF BULK AT MOST 1048576: true; the input reads as it did. -/
def fnExactIsConvexUptoRow : OpenClaim := { program := "ytnhpjjbblegnaaadoor", sum := "30e01ca0c608433c84ba967b27394a918d114a251953bceb19d608fdbf0ad233", func := "loop.example/intervalsandplaces/laws.FnExactIsConvex", spec := "fnExactIsConvex", unfollowed := true, recurses := true, named := ["loop.example/intervalsandplaces/impl.basicTable"], apart := false, laid := [("loop.example/intervalsandplaces/impl.basicTable", laid_loop_example_intervalsandplaces_impl_basicTable)], narrowed := true }
def FnExactIsConvexUptoSaid : Prop := fnExactIsConvexUptoRow.holds Tryd.pinned (OpenSpec.upto fnExactIsConvexSpec)

/-- 'laws.FnExactDimensionOf', WHERE WHAT IT READS IS OF BULK AT MOST 1048576: true; the input reads as it did. -/
def fnExactDimensionOfUptoRow : OpenClaim := { program := "ytnhpjjbblegnaaadoor", sum := "30e01ca0c608433c84ba967b27394a918d114a251953bceb19d608fdbf0ad233", func := "loop.example/intervalsandplaces/laws.FnExactDimensionOf", spec := "fnExactDimensionOf", unfollowed := true, recurses := true, named := ["loop.example/intervalsandplaces/impl.basicTable"], apart := false, laid := [("loop.example/intervalsandplaces/impl.basicTable", laid_loop_example_intervalsandplaces_impl_basicTable)], narrowed := true }
def FnExactDimensionOfUptoSaid : Prop := fnExactDimensionOfUptoRow.holds Tryd.pinned (OpenSpec.upto fnExactDimensionOfSpec)

/-- 'laws.FnExactClosureOf', WHERE WHAT IT READS IS OF BULK AT MOST 1048576: true; the input reads as it did. -/
def fnExactClosureOfUptoRow : OpenClaim := { program := "ytnhpjjbblegnaaadoor", sum := "30e01ca0c608433c84ba967b27394a918d114a251953bceb19d608fdbf0ad233", func := "loop.example/intervalsandplaces/laws.FnExactClosureOf", spec := "fnExactClosureOf", unfollowed := true, recurses := true, named := ["loop.example/intervalsandplaces/impl.basicTable"], apart := false, laid := [("loop.example/intervalsandplaces/impl.basicTable", laid_loop_example_intervalsandplaces_impl_basicTable)], narrowed := true }
def FnExactClosureOfUptoSaid : Prop := fnExactClosureOfUptoRow.holds Tryd.pinned (OpenSpec.upto fnExactClosureOfSpec)

/-- 'laws.FnExactIsPreconvex', WHERE WHAT IT READS IS OF BULK AT MOST 1048576: true; the input reads as it did. -/
def fnExactIsPreconvexUptoRow : OpenClaim := { program := "ytnhpjjbblegnaaadoor", sum := "30e01ca0c608433c84ba967b27394a918d114a251953bceb19d608fdbf0ad233", func := "loop.example/intervalsandplaces/laws.FnExactIsPreconvex", spec := "fnExactIsPreconvex", unfollowed := true, recurses := true, named := ["loop.example/intervalsandplaces/impl.basicTable"], apart := false, laid := [("loop.example/intervalsandplaces/impl.basicTable", laid_loop_example_intervalsandplaces_impl_basicTable)], narrowed := true }
def FnExactIsPreconvexUptoSaid : Prop := fnExactIsPreconvexUptoRow.holds Tryd.pinned (OpenSpec.upto fnExactIsPreconvexSpec)

/-- 'laws.FnExactNextOf', WHERE WHAT IT READS IS OF BULK AT MOST 1048576: true; the input reads as it did. -/
def fnExactNextOfUptoRow : OpenClaim := { program := "ytnhpjjbblegnaaadoor", sum := "30e01ca0c608433c84ba967b27394a918d114a251953bceb19d608fdbf0ad233", func := "loop.example/intervalsandplaces/laws.FnExactNextOf", spec := "fnExactNextOf", unfollowed := true, recurses := true, named := ["loop.example/intervalsandplaces/impl.basicTable"], apart := false, laid := [("loop.example/intervalsandplaces/impl.basicTable", laid_loop_example_intervalsandplaces_impl_basicTable)], narrowed := true }
def FnExactNextOfUptoSaid : Prop := fnExactNextOfUptoRow.holds Tryd.pinned (OpenSpec.upto fnExactNextOfSpec)

/-- 'laws.FnExactStepsBetween', WHERE WHAT IT READS IS OF BULK AT MOST 1048576: true; the input reads as it did. -/
def fnExactStepsBetweenUptoRow : OpenClaim := { program := "ytnhpjjbblegnaaadoor", sum := "30e01ca0c608433c84ba967b27394a918d114a251953bceb19d608fdbf0ad233", func := "loop.example/intervalsandplaces/laws.FnExactStepsBetween", spec := "fnExactStepsBetween", unfollowed := true, recurses := true, named := ["loop.example/intervalsandplaces/impl.basicTable"], apart := false, laid := [("loop.example/intervalsandplaces/impl.basicTable", laid_loop_example_intervalsandplaces_impl_basicTable)], narrowed := true }
def FnExactStepsBetweenUptoSaid : Prop := fnExactStepsBetweenUptoRow.holds Tryd.pinned (OpenSpec.upto fnExactStepsBetweenSpec)

/-- 'laws.FnExactEndOrders', WHERE WHAT IT READS IS OF BULK AT MOST 1048576: true; the input reads as it did. -/
def fnExactEndOrdersUptoRow : OpenClaim := { program := "ytnhpjjbblegnaaadoor", sum := "30e01ca0c608433c84ba967b27394a918d114a251953bceb19d608fdbf0ad233", func := "loop.example/intervalsandplaces/laws.FnExactEndOrders", spec := "fnExactEndOrders", unfollowed := true, recurses := true, named := ["loop.example/intervalsandplaces/impl.basicTable"], apart := false, laid := [("loop.example/intervalsandplaces/impl.basicTable", laid_loop_example_intervalsandplaces_impl_basicTable)], narrowed := true }
def FnExactEndOrdersUptoSaid : Prop := fnExactEndOrdersUptoRow.holds Tryd.pinned (OpenSpec.upto fnExactEndOrdersSpec)

/-- 'laws.FnExactRelOfOrders', WHERE WHAT IT READS IS OF BULK AT MOST 1048576: true; the input reads as it did. -/
def fnExactRelOfOrdersUptoRow : OpenClaim := { program := "ytnhpjjbblegnaaadoor", sum := "30e01ca0c608433c84ba967b27394a918d114a251953bceb19d608fdbf0ad233", func := "loop.example/intervalsandplaces/laws.FnExactRelOfOrders", spec := "fnExactRelOfOrders", unfollowed := true, recurses := true, named := ["loop.example/intervalsandplaces/impl.basicTable"], apart := false, laid := [("loop.example/intervalsandplaces/impl.basicTable", laid_loop_example_intervalsandplaces_impl_basicTable)], narrowed := true }
def FnExactRelOfOrdersUptoSaid : Prop := fnExactRelOfOrdersUptoRow.holds Tryd.pinned (OpenSpec.upto fnExactRelOfOrdersSpec)

/-- 'laws.FnExactIsPointable', WHERE WHAT IT READS IS OF BULK AT MOST 1048576: true; the input reads as it did. -/
def fnExactIsPointableUptoRow : OpenClaim := { program := "ytnhpjjbblegnaaadoor", sum := "30e01ca0c608433c84ba967b27394a918d114a251953bceb19d608fdbf0ad233", func := "loop.example/intervalsandplaces/laws.FnExactIsPointable", spec := "fnExactIsPointable", unfollowed := true, recurses := true, named := ["loop.example/intervalsandplaces/impl.basicTable"], apart := false, laid := [("loop.example/intervalsandplaces/impl.basicTable", laid_loop_example_intervalsandplaces_impl_basicTable)], narrowed := true }
def FnExactIsPointableUptoSaid : Prop := fnExactIsPointableUptoRow.holds Tryd.pinned (OpenSpec.upto fnExactIsPointableSpec)

end Rows
end Go.Proofs.YtnhpjjbblegnaaaDoor
