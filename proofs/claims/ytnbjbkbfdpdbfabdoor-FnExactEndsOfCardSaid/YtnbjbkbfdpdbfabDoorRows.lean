/-
  NARROWER THAN 'FOR EVERY INPUT', by the rows' own cells (each row's printed sentence says how): FnExactZonesOf: laid · FnExactBasicAt: laid · FnExactEndsOf: laid.
  DERIVED. THE GIVEN ROWS OF THIS SEAT. 3 by the template 'for every input the law returns true; each argument reads behind the call as it read before'; 0 by the template 'total and deterministic' (their statements: YtnbjbkbfdpdbfabDoorTotals.lean).
  GIVEN WITH THE SEED: the statements are not yours to turn. If you find one false, say at which input.
  Laid BY PROGRAM, IN A SANDBOX (cutbox-rows.mjs): the forced cells as the released guide's own fill.sh prints them over the translation 472365df97e30199… (all of the seat's roots in one cut). By AI agents, Wed Nov 11 2026. No macro, syntax, notation, axiom, sorry.
-/
import Derived.Test.YtnbjbkbfdpdbfabDoorChecked
import GoSem.Claim
import GoSem.ClaimJoined
import GoSem.ClaimMapViews
import Derived.JoinedTies
import Derived.KernelRfl
namespace Go.Proofs.YtnbjbkbfdpdbfabDoor
/- THE CELL 'sum', in the pinned program and in every row, IS THE sha256 OF THE DUMP (.gsa) THAT YtnbjbkbfdpdbfabDoorProg.lean LOADS. Nothing in Lean hashes anything: it is a label: what it is worth is what the hold of that sum in a sandbox is worth. -/
noncomputable def Tryd.pinned : Pinned := { name := "ytnbjbkbfdpdbfabdoor", sum := "472365df97e30199f7197e24daf012790421dc0dd453111634f972bcc5a0e3c9", checked := Tryd.checked }
namespace Rows
def none {H : Type} : Left H := { results := [], args := [] }

/- WHAT THE LISTED PACKAGE-LEVEL VARIABLES READ AS WHEN THE CALL BEGINS. Each datum BY PROGRAM (the guide's laid-datum.mjs) off the statement by which the dump's own 'gosem.cut.vars' lays the variable. In a bare row this is a premise. The card (YtnbjbkbfdpdbfabDoorCards.lean) ties it to the program's text. -/
def laid_loop_example_intervalsandplaces_impl_basicTable {H : Type} : DataW H := .agg [.agg [.lit (.string [98]), .lit (.int .i64 0), .lit (.int .i64 0)], .agg [.lit (.string [109]), .lit (.int .i64 0), .lit (.int .i64 1)], .agg [.lit (.string [111]), .lit (.int .i64 0), .lit (.int .i64 2)], .agg [.lit (.string [115]), .lit (.int .i64 1), .lit (.int .i64 2)], .agg [.lit (.string [100]), .lit (.int .i64 2), .lit (.int .i64 2)], .agg [.lit (.string [102]), .lit (.int .i64 2), .lit (.int .i64 3)], .agg [.lit (.string [101]), .lit (.int .i64 1), .lit (.int .i64 3)], .agg [.lit (.string [70]), .lit (.int .i64 0), .lit (.int .i64 3)], .agg [.lit (.string [68]), .lit (.int .i64 0), .lit (.int .i64 4)], .agg [.lit (.string [83]), .lit (.int .i64 1), .lit (.int .i64 4)], .agg [.lit (.string [79]), .lit (.int .i64 2), .lit (.int .i64 4)], .agg [.lit (.string [77]), .lit (.int .i64 3), .lit (.int .i64 4)], .agg [.lit (.string [66]), .lit (.int .i64 4), .lit (.int .i64 4)]]

/-- 'laws.FnExactZonesOf': WHATEVER THE INPUT: true; the input reads as it did. -/
def fnExactZonesOfSpec : ChangeSpec := { name := "fnExactZonesOf", vars := ["loop.example/intervalsandplaces/impl.basicTable"], fn := fun _ => fun
  | [d, g1] => { results := [.lit (.bool true)], args := [d], vars := [g1] }
  | _ => none }
def fnExactZonesOfRow : OpenClaim := { program := "ytnbjbkbfdpdbfabdoor", sum := "472365df97e30199f7197e24daf012790421dc0dd453111634f972bcc5a0e3c9", func := "loop.example/intervalsandplaces/laws.FnExactZonesOf", spec := "fnExactZonesOf", unfollowed := true, recurses := true, named := ["loop.example/intervalsandplaces/impl.basicTable"], apart := false, laid := [("loop.example/intervalsandplaces/impl.basicTable", laid_loop_example_intervalsandplaces_impl_basicTable)] }
def FnExactZonesOfSaid : Prop := fnExactZonesOfRow.holds Tryd.pinned (OpenSpec.ofChange fnExactZonesOfSpec)

/-- ITS FALSE NEIGHBOUR: 'it returns false'. Refute it at one input. -/
def fnExactZonesOfWrong : ChangeSpec := { name := "fnExactZonesOf", vars := ["loop.example/intervalsandplaces/impl.basicTable"], fn := fun _ => fun
  | [d, g1] => { results := [.lit (.bool false)], args := [d], vars := [g1] }
  | _ => none }
def FnExactZonesOfWrongFalsely : Prop := fnExactZonesOfRow.holds Tryd.pinned (OpenSpec.ofChange fnExactZonesOfWrong)

/-- 'laws.FnExactBasicAt': WHATEVER THE INPUT: true; the input reads as it did. -/
def fnExactBasicAtSpec : ChangeSpec := { name := "fnExactBasicAt", vars := ["loop.example/intervalsandplaces/impl.basicTable"], fn := fun _ => fun
  | [d1, d2, g1] => { results := [.lit (.bool true)], args := [d1, d2], vars := [g1] }
  | _ => none }
def fnExactBasicAtRow : OpenClaim := { program := "ytnbjbkbfdpdbfabdoor", sum := "472365df97e30199f7197e24daf012790421dc0dd453111634f972bcc5a0e3c9", func := "loop.example/intervalsandplaces/laws.FnExactBasicAt", spec := "fnExactBasicAt", unfollowed := true, recurses := true, named := ["loop.example/intervalsandplaces/impl.basicTable"], apart := false, laid := [("loop.example/intervalsandplaces/impl.basicTable", laid_loop_example_intervalsandplaces_impl_basicTable)] }
def FnExactBasicAtSaid : Prop := fnExactBasicAtRow.holds Tryd.pinned (OpenSpec.ofChange fnExactBasicAtSpec)

/-- ITS FALSE NEIGHBOUR: 'it returns false'. Refute it at one input. -/
def fnExactBasicAtWrong : ChangeSpec := { name := "fnExactBasicAt", vars := ["loop.example/intervalsandplaces/impl.basicTable"], fn := fun _ => fun
  | [d1, d2, g1] => { results := [.lit (.bool false)], args := [d1, d2], vars := [g1] }
  | _ => none }
def FnExactBasicAtWrongFalsely : Prop := fnExactBasicAtRow.holds Tryd.pinned (OpenSpec.ofChange fnExactBasicAtWrong)

/-- 'laws.FnExactEndsOf': WHATEVER THE INPUT: true; the input reads as it did. -/
def fnExactEndsOfSpec : ChangeSpec := { name := "fnExactEndsOf", vars := ["loop.example/intervalsandplaces/impl.basicTable"], fn := fun _ => fun
  | [d, g1] => { results := [.lit (.bool true)], args := [d], vars := [g1] }
  | _ => none }
def fnExactEndsOfRow : OpenClaim := { program := "ytnbjbkbfdpdbfabdoor", sum := "472365df97e30199f7197e24daf012790421dc0dd453111634f972bcc5a0e3c9", func := "loop.example/intervalsandplaces/laws.FnExactEndsOf", spec := "fnExactEndsOf", unfollowed := true, recurses := true, named := ["loop.example/intervalsandplaces/impl.basicTable"], apart := false, laid := [("loop.example/intervalsandplaces/impl.basicTable", laid_loop_example_intervalsandplaces_impl_basicTable)] }
def FnExactEndsOfSaid : Prop := fnExactEndsOfRow.holds Tryd.pinned (OpenSpec.ofChange fnExactEndsOfSpec)

/-- ITS FALSE NEIGHBOUR: 'it returns false'. Refute it at one input. -/
def fnExactEndsOfWrong : ChangeSpec := { name := "fnExactEndsOf", vars := ["loop.example/intervalsandplaces/impl.basicTable"], fn := fun _ => fun
  | [d, g1] => { results := [.lit (.bool false)], args := [d], vars := [g1] }
  | _ => none }
def FnExactEndsOfWrongFalsely : Prop := fnExactEndsOfRow.holds Tryd.pinned (OpenSpec.ofChange fnExactEndsOfWrong)

/- THE SECOND FORM. 'bulk': how many values and letters a reading holds, each counted each time it is reached (what is shared counts as often as it is met; a slice's spare places count too). A statement '..UptoSaid' is the law's where the arguments, and the package variables that the reading takes, are together of bulk at most 1048576: NARROWER than '..Said'. Prove '..Said' where nothing that the law and all that it calls make is longer than what came in: it says more and counts as full. Else prove '..UptoSaid'. A law counts once. -/
mutual
def uptoBulk {H : Type} : DataW H → Nat
  | .lit (.string bytes) => bytes.length + 1
  | .lit _ => 1
  | .nil => 1
  | .ptr d => uptoBulk d + 1
  | .slice elems spare => uptoBulkAll elems + uptoBulkAll spare + 1
  | .agg parts => uptoBulkAll parts + 1
  | .iface _ d => uptoBulk d + 1
  | .map entries => uptoBulkEntries entries + 1
  | .held _ => 1
def uptoBulkAll {H : Type} : List (DataW H) → Nat
  | [] => 0
  | d :: r => uptoBulk d + uptoBulkAll r
def uptoBulkEntries {H : Type} : List (Lit × DataW H) → Nat
  | [] => 0
  | x :: r => uptoBulkEntry x + uptoBulkEntries r
def uptoBulkEntry {H : Type} : Lit × DataW H → Nat
  | (.string bytes, d) => bytes.length + uptoBulk d + 1
  | (_, d) => uptoBulk d + 1
 end
def uptoSmall : (H : Type) → List (DataW H) → Bool := fun _ ds => decide (uptoBulkAll ds ≤ 1048576)
def OpenSpec.upto (s : _root_.Go.ChangeSpec) : _root_.Go.OpenSpec := { _root_.Go.OpenSpec.ofChange s with cond := some uptoSmall }

/-- 'laws.FnExactZonesOf', WHERE WHAT IT READS IS OF BULK AT MOST 1048576: true; the input reads as it did. -/
def fnExactZonesOfUptoRow : OpenClaim := { program := "ytnbjbkbfdpdbfabdoor", sum := "472365df97e30199f7197e24daf012790421dc0dd453111634f972bcc5a0e3c9", func := "loop.example/intervalsandplaces/laws.FnExactZonesOf", spec := "fnExactZonesOf", unfollowed := true, recurses := true, named := ["loop.example/intervalsandplaces/impl.basicTable"], apart := false, laid := [("loop.example/intervalsandplaces/impl.basicTable", laid_loop_example_intervalsandplaces_impl_basicTable)], narrowed := true }
def FnExactZonesOfUptoSaid : Prop := fnExactZonesOfUptoRow.holds Tryd.pinned (OpenSpec.upto fnExactZonesOfSpec)

/-- 'laws.FnExactBasicAt', WHERE WHAT IT READS IS OF BULK AT MOST 1048576: true; the input reads as it did. -/
def fnExactBasicAtUptoRow : OpenClaim := { program := "ytnbjbkbfdpdbfabdoor", sum := "472365df97e30199f7197e24daf012790421dc0dd453111634f972bcc5a0e3c9", func := "loop.example/intervalsandplaces/laws.FnExactBasicAt", spec := "fnExactBasicAt", unfollowed := true, recurses := true, named := ["loop.example/intervalsandplaces/impl.basicTable"], apart := false, laid := [("loop.example/intervalsandplaces/impl.basicTable", laid_loop_example_intervalsandplaces_impl_basicTable)], narrowed := true }
def FnExactBasicAtUptoSaid : Prop := fnExactBasicAtUptoRow.holds Tryd.pinned (OpenSpec.upto fnExactBasicAtSpec)

/-- 'laws.FnExactEndsOf', WHERE WHAT IT READS IS OF BULK AT MOST 1048576: true; the input reads as it did. -/
def fnExactEndsOfUptoRow : OpenClaim := { program := "ytnbjbkbfdpdbfabdoor", sum := "472365df97e30199f7197e24daf012790421dc0dd453111634f972bcc5a0e3c9", func := "loop.example/intervalsandplaces/laws.FnExactEndsOf", spec := "fnExactEndsOf", unfollowed := true, recurses := true, named := ["loop.example/intervalsandplaces/impl.basicTable"], apart := false, laid := [("loop.example/intervalsandplaces/impl.basicTable", laid_loop_example_intervalsandplaces_impl_basicTable)], narrowed := true }
def FnExactEndsOfUptoSaid : Prop := fnExactEndsOfUptoRow.holds Tryd.pinned (OpenSpec.upto fnExactEndsOfSpec)

end Rows
end Go.Proofs.YtnbjbkbfdpdbfabDoor
