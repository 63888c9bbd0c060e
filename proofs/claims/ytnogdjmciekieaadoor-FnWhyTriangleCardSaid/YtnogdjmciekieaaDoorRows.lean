/-
  NARROWER THAN 'FOR EVERY INPUT', by the rows' own cells (each row's printed sentence says how): FnExactNetOf: laid · FnExactNetHolds: laid · FnExactPartNet: laid · FnWhyTriangle: laid.
  DERIVED. THE GIVEN ROWS OF THIS SEAT. 4 by the template 'for every input the law returns true; each argument reads behind the call as it read before'; 0 by the template 'total and deterministic' (their statements: YtnogdjmciekieaaDoorTotals.lean).
  GIVEN WITH THE SEED: the statements are not yours to turn. If you find one false, say at which input.
  Laid BY PROGRAM, IN A SANDBOX (cutbox-rows.mjs): the forced cells as the released guide's own fill.sh prints them over the translation 5c308801feab98f5… (all of the seat's roots in one cut). By AI agents, Wed Nov 11 2026. No macro, syntax, notation, axiom, sorry.
-/
import Derived.Test.YtnogdjmciekieaaDoorChecked
import GoSem.Claim
import GoSem.ClaimJoined
import GoSem.ClaimMapViews
import Derived.JoinedTies
import Derived.KernelRfl
namespace Go.Proofs.YtnogdjmciekieaaDoor
/- THE CELL 'sum', in the pinned program and in every row, IS THE sha256 OF THE DUMP (.gsa) THAT YtnogdjmciekieaaDoorProg.lean LOADS. Nothing in Lean hashes anything: it is a label: what it is worth is what the hold of that sum in a sandbox is worth. -/
noncomputable def Tryd.pinned : Pinned := { name := "ytnogdjmciekieaadoor", sum := "5c308801feab98f541369f8263252068fbbad99972a8ba01b3df4b4d23174ffa", checked := Tryd.checked }
namespace Rows
def none {H : Type} : Left H := { results := [], args := [] }

/- WHAT THE LISTED PACKAGE-LEVEL VARIABLES READ AS WHEN THE CALL BEGINS. Each datum BY PROGRAM (the guide's laid-datum.mjs) off the statement by which the dump's own 'gosem.cut.vars' lays the variable. In a bare row this is a premise. The card (YtnogdjmciekieaaDoorCards.lean) ties it to the program's text. -/
def laid_loop_example_intervalsandplaces_impl_basicTable {H : Type} : DataW H := .agg [.agg [.lit (.string [98]), .lit (.int .i64 0), .lit (.int .i64 0)], .agg [.lit (.string [109]), .lit (.int .i64 0), .lit (.int .i64 1)], .agg [.lit (.string [111]), .lit (.int .i64 0), .lit (.int .i64 2)], .agg [.lit (.string [115]), .lit (.int .i64 1), .lit (.int .i64 2)], .agg [.lit (.string [100]), .lit (.int .i64 2), .lit (.int .i64 2)], .agg [.lit (.string [102]), .lit (.int .i64 2), .lit (.int .i64 3)], .agg [.lit (.string [101]), .lit (.int .i64 1), .lit (.int .i64 3)], .agg [.lit (.string [70]), .lit (.int .i64 0), .lit (.int .i64 3)], .agg [.lit (.string [68]), .lit (.int .i64 0), .lit (.int .i64 4)], .agg [.lit (.string [83]), .lit (.int .i64 1), .lit (.int .i64 4)], .agg [.lit (.string [79]), .lit (.int .i64 2), .lit (.int .i64 4)], .agg [.lit (.string [77]), .lit (.int .i64 3), .lit (.int .i64 4)], .agg [.lit (.string [66]), .lit (.int .i64 4), .lit (.int .i64 4)]]

/-- 'laws.FnExactNetOf': WHATEVER THE INPUT: true; the input reads as it did. -/
def fnExactNetOfSpec : ChangeSpec := { name := "fnExactNetOf", vars := ["loop.example/intervalsandplaces/impl.basicTable"], fn := fun _ => fun
  | [d, g1] => { results := [.lit (.bool true)], args := [d], vars := [g1] }
  | _ => none }
def fnExactNetOfRow : OpenClaim := { program := "ytnogdjmciekieaadoor", sum := "5c308801feab98f541369f8263252068fbbad99972a8ba01b3df4b4d23174ffa", func := "loop.example/intervalsandplaces/laws.FnExactNetOf", spec := "fnExactNetOf", inPlace := ["internal/abi.NoEscape"], unfollowed := true, recurses := true, named := ["loop.example/intervalsandplaces/impl.basicTable"], apart := false, laid := [("loop.example/intervalsandplaces/impl.basicTable", laid_loop_example_intervalsandplaces_impl_basicTable)] }
def FnExactNetOfSaid : Prop := fnExactNetOfRow.holds Tryd.pinned (OpenSpec.ofChange fnExactNetOfSpec)

/-- ITS FALSE NEIGHBOUR: 'it returns false'. Refute it at one input. -/
def fnExactNetOfWrong : ChangeSpec := { name := "fnExactNetOf", vars := ["loop.example/intervalsandplaces/impl.basicTable"], fn := fun _ => fun
  | [d, g1] => { results := [.lit (.bool false)], args := [d], vars := [g1] }
  | _ => none }
def FnExactNetOfWrongFalsely : Prop := fnExactNetOfRow.holds Tryd.pinned (OpenSpec.ofChange fnExactNetOfWrong)

/-- 'laws.FnExactNetHolds': WHATEVER THE INPUT: true; the input reads as it did. -/
def fnExactNetHoldsSpec : ChangeSpec := { name := "fnExactNetHolds", vars := ["loop.example/intervalsandplaces/impl.basicTable"], fn := fun _ => fun
  | [d1, d2, g1] => { results := [.lit (.bool true)], args := [d1, d2], vars := [g1] }
  | _ => none }
def fnExactNetHoldsRow : OpenClaim := { program := "ytnogdjmciekieaadoor", sum := "5c308801feab98f541369f8263252068fbbad99972a8ba01b3df4b4d23174ffa", func := "loop.example/intervalsandplaces/laws.FnExactNetHolds", spec := "fnExactNetHolds", inPlace := ["internal/abi.NoEscape", "internal/bytealg.IndexByteString"], unfollowed := true, recurses := true, named := ["loop.example/intervalsandplaces/impl.basicTable"], apart := false, laid := [("loop.example/intervalsandplaces/impl.basicTable", laid_loop_example_intervalsandplaces_impl_basicTable)] }
def FnExactNetHoldsSaid : Prop := fnExactNetHoldsRow.holds Tryd.pinned (OpenSpec.ofChange fnExactNetHoldsSpec)

/-- ITS FALSE NEIGHBOUR: 'it returns false'. Refute it at one input. -/
def fnExactNetHoldsWrong : ChangeSpec := { name := "fnExactNetHolds", vars := ["loop.example/intervalsandplaces/impl.basicTable"], fn := fun _ => fun
  | [d1, d2, g1] => { results := [.lit (.bool false)], args := [d1, d2], vars := [g1] }
  | _ => none }
def FnExactNetHoldsWrongFalsely : Prop := fnExactNetHoldsRow.holds Tryd.pinned (OpenSpec.ofChange fnExactNetHoldsWrong)

/-- 'laws.FnExactPartNet': WHATEVER THE INPUT: true; the input reads as it did. -/
def fnExactPartNetSpec : ChangeSpec := { name := "fnExactPartNet", vars := ["loop.example/intervalsandplaces/impl.basicTable"], fn := fun _ => fun
  | [d1, d2, g1] => { results := [.lit (.bool true)], args := [d1, d2], vars := [g1] }
  | _ => none }
def fnExactPartNetRow : OpenClaim := { program := "ytnogdjmciekieaadoor", sum := "5c308801feab98f541369f8263252068fbbad99972a8ba01b3df4b4d23174ffa", func := "loop.example/intervalsandplaces/laws.FnExactPartNet", spec := "fnExactPartNet", inPlace := ["internal/bytealg.IndexByteString", "internal/abi.NoEscape"], unfollowed := true, recurses := true, named := ["loop.example/intervalsandplaces/impl.basicTable"], apart := false, laid := [("loop.example/intervalsandplaces/impl.basicTable", laid_loop_example_intervalsandplaces_impl_basicTable)] }
def FnExactPartNetSaid : Prop := fnExactPartNetRow.holds Tryd.pinned (OpenSpec.ofChange fnExactPartNetSpec)

/-- ITS FALSE NEIGHBOUR: 'it returns false'. Refute it at one input. -/
def fnExactPartNetWrong : ChangeSpec := { name := "fnExactPartNet", vars := ["loop.example/intervalsandplaces/impl.basicTable"], fn := fun _ => fun
  | [d1, d2, g1] => { results := [.lit (.bool false)], args := [d1, d2], vars := [g1] }
  | _ => none }
def FnExactPartNetWrongFalsely : Prop := fnExactPartNetRow.holds Tryd.pinned (OpenSpec.ofChange fnExactPartNetWrong)

/-- 'laws.FnWhyTriangle': WHATEVER THE INPUT: true; the input reads as it did. -/
def fnWhyTriangleSpec : ChangeSpec := { name := "fnWhyTriangle", vars := ["loop.example/intervalsandplaces/impl.basicTable"], fn := fun _ => fun
  | [d, g1] => { results := [.lit (.bool true)], args := [d], vars := [g1] }
  | _ => none }
def fnWhyTriangleRow : OpenClaim := { program := "ytnogdjmciekieaadoor", sum := "5c308801feab98f541369f8263252068fbbad99972a8ba01b3df4b4d23174ffa", func := "loop.example/intervalsandplaces/laws.FnWhyTriangle", spec := "fnWhyTriangle", inPlace := ["internal/bytealg.IndexByteString"], unfollowed := true, recurses := true, named := ["loop.example/intervalsandplaces/impl.basicTable"], apart := false, laid := [("loop.example/intervalsandplaces/impl.basicTable", laid_loop_example_intervalsandplaces_impl_basicTable)] }
def FnWhyTriangleSaid : Prop := fnWhyTriangleRow.holds Tryd.pinned (OpenSpec.ofChange fnWhyTriangleSpec)

/-- ITS FALSE NEIGHBOUR: 'it returns false'. Refute it at one input. -/
def fnWhyTriangleWrong : ChangeSpec := { name := "fnWhyTriangle", vars := ["loop.example/intervalsandplaces/impl.basicTable"], fn := fun _ => fun
  | [d, g1] => { results := [.lit (.bool false)], args := [d], vars := [g1] }
  | _ => none }
def FnWhyTriangleWrongFalsely : Prop := fnWhyTriangleRow.holds Tryd.pinned (OpenSpec.ofChange fnWhyTriangleWrong)

/- THE SECOND FORM. 'bulk': how many values and letters a reading holds, each counted each time it is reached (what is shared counts as often as it is met; a slice's spare places count too). A statement '..UptoSaid' is the law's where the arguments, and the package variables that the reading takes, are together of bulk at most 1048576: NARROWER than '..Said'. Prove '..Said' where nothing that the law and all that it calls make is longer than what came in: it says more and counts as full. Else prove '..UptoSaid'. A law counts once. -/
mutual
def uptoBulk {H : Type} : DataW H → Nat
  | .lit (.string bytes) => bytes.length + 1
  | .lit _ => 1
  | .nil => 1
  | .ptr d => uptoBulk d + 1
  | .slice elems spare => uptoBulkAll elems + uptoBulkAll spare + 1
  | .agg parts => uptoBulkAll parts + 1
  | .iface _ d => uptoBulk d + 1
  | .map entries => uptoBulkEntries entries + 1
  | .held _ => 1
def uptoBulkAll {H : Type} : List (DataW H) → Nat
  | [] => 0
  | d :: r => uptoBulk d + uptoBulkAll r
def uptoBulkEntries {H : Type} : List (Lit × DataW H) → Nat
  | [] => 0
  | x :: r => uptoBulkEntry x + uptoBulkEntries r
def uptoBulkEntry {H : Type} : Lit × DataW H → Nat
  | (.string bytes, d) => bytes.length + uptoBulk d + 1
  | (_, d) => uptoBulk d + 1
 end
def uptoSmall : (H : Type) → List (DataW H) → Bool := fun _ ds => decide (uptoBulkAll ds ≤ 1048576)
def OpenSpec.upto (s : _root_.Go.ChangeSpec) : _root_.Go.OpenSpec := { _root_.Go.OpenSpec.ofChange s with cond := some uptoSmall }

/-- 'laws.FnExactNetOf', WHERE WHAT IT READS IS OF BULK AT MOST 1048576: true; the input reads as it did. -/
def fnExactNetOfUptoRow : OpenClaim := { program := "ytnogdjmciekieaadoor", sum := "5c308801feab98f541369f8263252068fbbad99972a8ba01b3df4b4d23174ffa", func := "loop.example/intervalsandplaces/laws.FnExactNetOf", spec := "fnExactNetOf", inPlace := ["internal/abi.NoEscape"], unfollowed := true, recurses := true, named := ["loop.example/intervalsandplaces/impl.basicTable"], apart := false, laid := [("loop.example/intervalsandplaces/impl.basicTable", laid_loop_example_intervalsandplaces_impl_basicTable)], narrowed := true }
def FnExactNetOfUptoSaid : Prop := fnExactNetOfUptoRow.holds Tryd.pinned (OpenSpec.upto fnExactNetOfSpec)

/-- 'laws.FnExactNetHolds', WHERE WHAT IT READS IS OF BULK AT MOST 1048576: true; the input reads as it did. -/
def fnExactNetHoldsUptoRow : OpenClaim := { program := "ytnogdjmciekieaadoor", sum := "5c308801feab98f541369f8263252068fbbad99972a8ba01b3df4b4d23174ffa", func := "loop.example/intervalsandplaces/laws.FnExactNetHolds", spec := "fnExactNetHolds", inPlace := ["internal/abi.NoEscape", "internal/bytealg.IndexByteString"], unfollowed := true, recurses := true, named := ["loop.example/intervalsandplaces/impl.basicTable"], apart := false, laid := [("loop.example/intervalsandplaces/impl.basicTable", laid_loop_example_intervalsandplaces_impl_basicTable)], narrowed := true }
def FnExactNetHoldsUptoSaid : Prop := fnExactNetHoldsUptoRow.holds Tryd.pinned (OpenSpec.upto fnExactNetHoldsSpec)

/-- 'laws.FnExactPartNet', WHERE WHAT IT READS IS OF BULK AT MOST 1048576: true; the input reads as it did. -/
def fnExactPartNetUptoRow : OpenClaim := { program := "ytnogdjmciekieaadoor", sum := "5c308801feab98f541369f8263252068fbbad99972a8ba01b3df4b4d23174ffa", func := "loop.example/intervalsandplaces/laws.FnExactPartNet", spec := "fnExactPartNet", inPlace := ["internal/bytealg.IndexByteString", "internal/abi.NoEscape"], unfollowed := true, recurses := true, named := ["loop.example/intervalsandplaces/impl.basicTable"], apart := false, laid := [("loop.example/intervalsandplaces/impl.basicTable", laid_loop_example_intervalsandplaces_impl_basicTable)], narrowed := true }
def FnExactPartNetUptoSaid : Prop := fnExactPartNetUptoRow.holds Tryd.pinned (OpenSpec.upto fnExactPartNetSpec)

/-- 'laws.FnWhyTriangle', WHERE WHAT IT READS IS OF BULK AT MOST 1048576: true; the input reads as it did. -/
def fnWhyTriangleUptoRow : OpenClaim := { program := "ytnogdjmciekieaadoor", sum := "5c308801feab98f541369f8263252068fbbad99972a8ba01b3df4b4d23174ffa", func := "loop.example/intervalsandplaces/laws.FnWhyTriangle", spec := "fnWhyTriangle", inPlace := ["internal/bytealg.IndexByteString"], unfollowed := true, recurses := true, named := ["loop.example/intervalsandplaces/impl.basicTable"], apart := false, laid := [("loop.example/intervalsandplaces/impl.basicTable", laid_loop_example_intervalsandplaces_impl_basicTable)], narrowed := true }
def FnWhyTriangleUptoSaid : Prop := fnWhyTriangleUptoRow.holds Tryd.pinned (OpenSpec.upto fnWhyTriangleSpec)

end Rows
end Go.Proofs.YtnogdjmciekieaaDoor
