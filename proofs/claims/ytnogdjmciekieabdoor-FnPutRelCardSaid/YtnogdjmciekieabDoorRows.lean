/-
  NARROWER THAN 'FOR EVERY INPUT', by the rows' own cells (each row's printed sentence says how): FnRelIn: laid · FnPutRel: laid · FnShiftModel: laid · FnSpan: laid.
  DERIVED. THE GIVEN ROWS OF THIS SEAT. 4 by the template 'for every input the law returns true; each argument reads behind the call as it read before'; 0 by the template 'total and deterministic' (their statements: YtnogdjmciekieabDoorTotals.lean).
  GIVEN WITH THE SEED: the statements are not yours to turn. If you find one false, say at which input.
  Laid BY PROGRAM, IN A SANDBOX (cutbox-rows.mjs): the forced cells as the released guide's own fill.sh prints them over the translation 765d1a81b2a782ef… (all of the seat's roots in one cut). By AI agents, Wed Nov 11 2026. No macro, syntax, notation, axiom, sorry.
-/
import Derived.Test.YtnogdjmciekieabDoorChecked
import GoSem.Claim
import GoSem.ClaimJoined
import GoSem.ClaimMapViews
import Derived.JoinedTies
import Derived.KernelRfl
namespace Go.Proofs.YtnogdjmciekieabDoor
/- THE CELL 'sum', in the pinned program and in every row, IS THE sha256 OF THE DUMP (.gsa) THAT YtnogdjmciekieabDoorProg.lean LOADS. Nothing in Lean hashes anything: it is a label: what it is worth is what the hold of that sum in a sandbox is worth. -/
noncomputable def Tryd.pinned : Pinned := { name := "ytnogdjmciekieabdoor", sum := "765d1a81b2a782efedfd715553b2bb3625eb326aaf485e5e6ee60b71b8a97a40", checked := Tryd.checked }
namespace Rows
def none {H : Type} : Left H := { results := [], args := [] }

/- WHAT THE LISTED PACKAGE-LEVEL VARIABLES READ AS WHEN THE CALL BEGINS. Each datum BY PROGRAM (the guide's laid-datum.mjs) off the statement by which the dump's own 'gosem.cut.vars' lays the variable. In a bare row this is a premise. The card (YtnogdjmciekieabDoorCards.lean) ties it to the program's text. -/
def laid_loop_example_intervalsandplaces_impl_basicTable {H : Type} : DataW H := .agg [.agg [.lit (.string [98]), .lit (.int .i64 0), .lit (.int .i64 0)], .agg [.lit (.string [109]), .lit (.int .i64 0), .lit (.int .i64 1)], .agg [.lit (.string [111]), .lit (.int .i64 0), .lit (.int .i64 2)], .agg [.lit (.string [115]), .lit (.int .i64 1), .lit (.int .i64 2)], .agg [.lit (.string [100]), .lit (.int .i64 2), .lit (.int .i64 2)], .agg [.lit (.string [102]), .lit (.int .i64 2), .lit (.int .i64 3)], .agg [.lit (.string [101]), .lit (.int .i64 1), .lit (.int .i64 3)], .agg [.lit (.string [70]), .lit (.int .i64 0), .lit (.int .i64 3)], .agg [.lit (.string [68]), .lit (.int .i64 0), .lit (.int .i64 4)], .agg [.lit (.string [83]), .lit (.int .i64 1), .lit (.int .i64 4)], .agg [.lit (.string [79]), .lit (.int .i64 2), .lit (.int .i64 4)], .agg [.lit (.string [77]), .lit (.int .i64 3), .lit (.int .i64 4)], .agg [.lit (.string [66]), .lit (.int .i64 4), .lit (.int .i64 4)]]
def laid_loop_example_intervalsandplaces_impl_namedTable {H : Type} : DataW H := .agg [.agg [.lit (.string [97, 108, 108]), .lit (.string [98, 109, 111, 115, 100, 102, 101, 70, 68, 83, 79, 77, 66])], .agg [.lit (.string [110, 111, 110, 101]), .lit (.string [45])], .agg [.lit (.string [97, 112, 97, 114, 116]), .lit (.string [98, 109, 77, 66])], .agg [.lit (.string [99, 111, 109, 109, 111, 110]), .lit (.string [111, 115, 100, 102, 101, 70, 68, 83, 79])], .agg [.lit (.string [119, 105, 116, 104, 105, 110]), .lit (.string [115, 100, 102, 101])], .agg [.lit (.string [98, 101, 103, 105, 110, 115]), .lit (.string [115, 101, 83])], .agg [.lit (.string [101, 110, 100, 115]), .lit (.string [102, 101, 70])], .agg [.lit (.string [101, 97, 114, 108, 105, 101, 114]), .lit (.string [98, 109, 111, 70, 68])]]

/-- 'laws.FnRelIn': WHATEVER THE INPUT: true; the input reads as it did. -/
def fnRelInSpec : ChangeSpec := { name := "fnRelIn", vars := ["loop.example/intervalsandplaces/impl.basicTable"], fn := fun _ => fun
  | [d, g1] => { results := [.lit (.bool true)], args := [d], vars := [g1] }
  | _ => none }
def fnRelInRow : OpenClaim := { program := "ytnogdjmciekieabdoor", sum := "765d1a81b2a782efedfd715553b2bb3625eb326aaf485e5e6ee60b71b8a97a40", func := "loop.example/intervalsandplaces/laws.FnRelIn", spec := "fnRelIn", inPlace := ["internal/bytealg.IndexByteString", "internal/abi.NoEscape"], unfollowed := true, recurses := true, named := ["loop.example/intervalsandplaces/impl.basicTable"], apart := false, laid := [("loop.example/intervalsandplaces/impl.basicTable", laid_loop_example_intervalsandplaces_impl_basicTable)] }
def FnRelInSaid : Prop := fnRelInRow.holds Tryd.pinned (OpenSpec.ofChange fnRelInSpec)

/-- ITS FALSE NEIGHBOUR: 'it returns false'. Refute it at one input. -/
def fnRelInWrong : ChangeSpec := { name := "fnRelIn", vars := ["loop.example/intervalsandplaces/impl.basicTable"], fn := fun _ => fun
  | [d, g1] => { results := [.lit (.bool false)], args := [d], vars := [g1] }
  | _ => none }
def FnRelInWrongFalsely : Prop := fnRelInRow.holds Tryd.pinned (OpenSpec.ofChange fnRelInWrong)

/-- 'laws.FnPutRel': WHATEVER THE INPUT: true; the input reads as it did. -/
def fnPutRelSpec : ChangeSpec := { name := "fnPutRel", vars := ["loop.example/intervalsandplaces/impl.basicTable"], fn := fun _ => fun
  | [d, g1] => { results := [.lit (.bool true)], args := [d], vars := [g1] }
  | _ => none }
def fnPutRelRow : OpenClaim := { program := "ytnogdjmciekieabdoor", sum := "765d1a81b2a782efedfd715553b2bb3625eb326aaf485e5e6ee60b71b8a97a40", func := "loop.example/intervalsandplaces/laws.FnPutRel", spec := "fnPutRel", inPlace := ["internal/bytealg.IndexByteString", "internal/abi.NoEscape"], unfollowed := true, recurses := true, named := ["loop.example/intervalsandplaces/impl.basicTable"], apart := false, laid := [("loop.example/intervalsandplaces/impl.basicTable", laid_loop_example_intervalsandplaces_impl_basicTable)] }
def FnPutRelSaid : Prop := fnPutRelRow.holds Tryd.pinned (OpenSpec.ofChange fnPutRelSpec)

/-- ITS FALSE NEIGHBOUR: 'it returns false'. Refute it at one input. -/
def fnPutRelWrong : ChangeSpec := { name := "fnPutRel", vars := ["loop.example/intervalsandplaces/impl.basicTable"], fn := fun _ => fun
  | [d, g1] => { results := [.lit (.bool false)], args := [d], vars := [g1] }
  | _ => none }
def FnPutRelWrongFalsely : Prop := fnPutRelRow.holds Tryd.pinned (OpenSpec.ofChange fnPutRelWrong)

/-- 'laws.FnShiftModel': WHATEVER THE INPUT: true; the input reads as it did. -/
def fnShiftModelSpec : ChangeSpec := { name := "fnShiftModel", vars := ["loop.example/intervalsandplaces/impl.basicTable"], fn := fun _ => fun
  | [d, g1] => { results := [.lit (.bool true)], args := [d], vars := [g1] }
  | _ => none }
def fnShiftModelRow : OpenClaim := { program := "ytnogdjmciekieabdoor", sum := "765d1a81b2a782efedfd715553b2bb3625eb326aaf485e5e6ee60b71b8a97a40", func := "loop.example/intervalsandplaces/laws.FnShiftModel", spec := "fnShiftModel", inPlace := ["internal/abi.NoEscape"], unfollowed := true, recurses := true, named := ["loop.example/intervalsandplaces/impl.basicTable"], apart := false, laid := [("loop.example/intervalsandplaces/impl.basicTable", laid_loop_example_intervalsandplaces_impl_basicTable)] }
def FnShiftModelSaid : Prop := fnShiftModelRow.holds Tryd.pinned (OpenSpec.ofChange fnShiftModelSpec)

/-- ITS FALSE NEIGHBOUR: 'it returns false'. Refute it at one input. -/
def fnShiftModelWrong : ChangeSpec := { name := "fnShiftModel", vars := ["loop.example/intervalsandplaces/impl.basicTable"], fn := fun _ => fun
  | [d, g1] => { results := [.lit (.bool false)], args := [d], vars := [g1] }
  | _ => none }
def FnShiftModelWrongFalsely : Prop := fnShiftModelRow.holds Tryd.pinned (OpenSpec.ofChange fnShiftModelWrong)

/-- 'laws.FnSpan': WHATEVER THE INPUT: true; the input reads as it did. -/
def fnSpanSpec : ChangeSpec := { name := "fnSpan", vars := ["loop.example/intervalsandplaces/impl.namedTable", "loop.example/intervalsandplaces/impl.basicTable"], fn := fun _ => fun
  | [d, g1, g2] => { results := [.lit (.bool true)], args := [d], vars := [g1, g2] }
  | _ => none }
def fnSpanRow : OpenClaim := { program := "ytnogdjmciekieabdoor", sum := "765d1a81b2a782efedfd715553b2bb3625eb326aaf485e5e6ee60b71b8a97a40", func := "loop.example/intervalsandplaces/laws.FnSpan", spec := "fnSpan", inPlace := ["internal/abi.NoEscape"], unfollowed := true, recurses := true, named := ["loop.example/intervalsandplaces/impl.namedTable", "loop.example/intervalsandplaces/impl.basicTable"], apart := false, laid := [("loop.example/intervalsandplaces/impl.basicTable", laid_loop_example_intervalsandplaces_impl_basicTable), ("loop.example/intervalsandplaces/impl.namedTable", laid_loop_example_intervalsandplaces_impl_namedTable)] }
def FnSpanSaid : Prop := fnSpanRow.holds Tryd.pinned (OpenSpec.ofChange fnSpanSpec)

/-- ITS FALSE NEIGHBOUR: 'it returns false'. Refute it at one input. -/
def fnSpanWrong : ChangeSpec := { name := "fnSpan", vars := ["loop.example/intervalsandplaces/impl.namedTable", "loop.example/intervalsandplaces/impl.basicTable"], fn := fun _ => fun
  | [d, g1, g2] => { results := [.lit (.bool false)], args := [d], vars := [g1, g2] }
  | _ => none }
def FnSpanWrongFalsely : Prop := fnSpanRow.holds Tryd.pinned (OpenSpec.ofChange fnSpanWrong)

/- THE SECOND FORM. 'bulk': how many values and letters a reading holds, each counted each time it is reached (what is shared counts as often as it is met; a slice's spare places count too). A statement '..UptoSaid' is the law's where the arguments, and the package variables that the reading takes, are together of bulk at most 1048576: NARROWER than '..Said'. Prove '..Said' where nothing that the law and all that it calls make is longer than what came in: it says more and counts as full. Else prove '..UptoSaid'. A law counts once. -/
mutual
def uptoBulk {H : Type} : DataW H → Nat
  | .lit (.string bytes) => bytes.length + 1
  | .lit _ => 1
  | .nil => 1
  | .ptr d => uptoBulk d + 1
  | .slice elems spare => uptoBulkAll elems + uptoBulkAll spare + 1
  | .agg parts => uptoBulkAll parts + 1
  | .iface _ d => uptoBulk d + 1
  | .map entries => uptoBulkEntries entries + 1
  | .held _ => 1
def uptoBulkAll {H : Type} : List (DataW H) → Nat
  | [] => 0
  | d :: r => uptoBulk d + uptoBulkAll r
def uptoBulkEntries {H : Type} : List (Lit × DataW H) → Nat
  | [] => 0
  | x :: r => uptoBulkEntry x + uptoBulkEntries r
def uptoBulkEntry {H : Type} : Lit × DataW H → Nat
  | (.string bytes, d) => bytes.length + uptoBulk d + 1
  | (_, d) => uptoBulk d + 1
 end
def uptoSmall : (H : Type) → List (DataW H) → Bool := fun _ ds => decide (uptoBulkAll ds ≤ 1048576)
def OpenSpec.upto (s : _root_.Go.ChangeSpec) : _root_.Go.OpenSpec := { _root_.Go.OpenSpec.ofChange s with cond := some uptoSmall }

/-- 'laws.FnRelIn', WHERE WHAT IT READS IS OF BULK AT MOST 1048576: true; the input reads as it did. -/
def fnRelInUptoRow : OpenClaim := { program := "ytnogdjmciekieabdoor", sum := "765d1a81b2a782efedfd715553b2bb3625eb326aaf485e5e6ee60b71b8a97a40", func := "loop.example/intervalsandplaces/laws.FnRelIn", spec := "fnRelIn", inPlace := ["internal/bytealg.IndexByteString", "internal/abi.NoEscape"], unfollowed := true, recurses := true, named := ["loop.example/intervalsandplaces/impl.basicTable"], apart := false, laid := [("loop.example/intervalsandplaces/impl.basicTable", laid_loop_example_intervalsandplaces_impl_basicTable)], narrowed := true }
def FnRelInUptoSaid : Prop := fnRelInUptoRow.holds Tryd.pinned (OpenSpec.upto fnRelInSpec)

/-- 'laws.FnPutRel', WHERE WHAT IT READS IS OF BULK AT MOST 1048576: true; the input reads as it did. -/
def fnPutRelUptoRow : OpenClaim := { program := "ytnogdjmciekieabdoor", sum := "765d1a81b2a782efedfd715553b2bb3625eb326aaf485e5e6ee60b71b8a97a40", func := "loop.example/intervalsandplaces/laws.FnPutRel", spec := "fnPutRel", inPlace := ["internal/bytealg.IndexByteString", "internal/abi.NoEscape"], unfollowed := true, recurses := true, named := ["loop.example/intervalsandplaces/impl.basicTable"], apart := false, laid := [("loop.example/intervalsandplaces/impl.basicTable", laid_loop_example_intervalsandplaces_impl_basicTable)], narrowed := true }
def FnPutRelUptoSaid : Prop := fnPutRelUptoRow.holds Tryd.pinned (OpenSpec.upto fnPutRelSpec)

/-- 'laws.FnShiftModel', WHERE WHAT IT READS IS OF BULK AT MOST 1048576: true; the input reads as it did. -/
def fnShiftModelUptoRow : OpenClaim := { program := "ytnogdjmciekieabdoor", sum := "765d1a81b2a782efedfd715553b2bb3625eb326aaf485e5e6ee60b71b8a97a40", func := "loop.example/intervalsandplaces/laws.FnShiftModel", spec := "fnShiftModel", inPlace := ["internal/abi.NoEscape"], unfollowed := true, recurses := true, named := ["loop.example/intervalsandplaces/impl.basicTable"], apart := false, laid := [("loop.example/intervalsandplaces/impl.basicTable", laid_loop_example_intervalsandplaces_impl_basicTable)], narrowed := true }
def FnShiftModelUptoSaid : Prop := fnShiftModelUptoRow.holds Tryd.pinned (OpenSpec.upto fnShiftModelSpec)

/-- 'laws.FnSpan', WHERE WHAT IT READS IS OF BULK AT MOST 1048576: true; the input reads as it did. -/
def fnSpanUptoRow : OpenClaim := { program := "ytnogdjmciekieabdoor", sum := "765d1a81b2a782efedfd715553b2bb3625eb326aaf485e5e6ee60b71b8a97a40", func := "loop.example/intervalsandplaces/laws.FnSpan", spec := "fnSpan", inPlace := ["internal/abi.NoEscape"], unfollowed := true, recurses := true, named := ["loop.example/intervalsandplaces/impl.namedTable", "loop.example/intervalsandplaces/impl.basicTable"], apart := false, laid := [("loop.example/intervalsandplaces/impl.basicTable", laid_loop_example_intervalsandplaces_impl_basicTable), ("loop.example/intervalsandplaces/impl.namedTable", laid_loop_example_intervalsandplaces_impl_namedTable)], narrowed := true }
def FnSpanUptoSaid : Prop := fnSpanUptoRow.holds Tryd.pinned (OpenSpec.upto fnSpanSpec)

end Rows
end Go.Proofs.YtnogdjmciekieabDoor
