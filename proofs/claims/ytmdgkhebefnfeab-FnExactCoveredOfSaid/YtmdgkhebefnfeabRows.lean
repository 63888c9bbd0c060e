/-
  No cell of these rows narrows 'for every input' (looked for: loops, veiled, ifaces, maps, wideKeys, modest, calm, conditions, laid).
  DERIVED. THE GIVEN ROWS OF THIS SEAT. 7 by the template 'for every input the law returns true; each argument reads behind the call as it read before'; 0 by the template 'total and deterministic' (their statements: YtmdgkhebefnfeabTotals.lean).
  GIVEN WITH THE SEED: the statements are not yours to turn. If you find one false, say at which input.
  Laid BY PROGRAM, IN A SANDBOX (cutbox-rows.mjs): the forced cells as the released guide's own fill.sh prints them over the translation 891b002edce2cf7b… (all of the seat's roots in one cut). By AI agents, Wed Nov 11 2026. No macro, syntax, notation, axiom, sorry.
-/
import Derived.Test.YtmdgkhebefnfeabChecked
import GoSem.Claim
import GoSem.ClaimJoined
import GoSem.ClaimMapViews
import Derived.JoinedTies
import Derived.KernelRfl
namespace Go.Proofs.Ytmdgkhebefnfeab
/- THE CELL 'sum', in the pinned program and in every row, IS THE sha256 OF THE DUMP (.gsa) THAT YtmdgkhebefnfeabProg.lean LOADS. Nothing in Lean hashes anything: it is a label: what it is worth is what the hold of that sum in a sandbox is worth. -/
noncomputable def Try.pinned : Pinned := { name := "ytmdgkhebefnfeab", sum := "891b002edce2cf7bf4f9312f804bf00f440bedfe1615b7fe571608a92fa5beff", checked := Try.checked }
namespace Rows
def none {H : Type} : Left H := { results := [], args := [] }

/-- 'laws.FnExactCountEnds': WHATEVER THE INPUT: true; the input reads as it did. -/
def fnExactCountEndsSpec : ChangeSpec := { name := "fnExactCountEnds", fn := fun _ => fun
  | [d] => { results := [.lit (.bool true)], args := [d] }
  | _ => none }
def fnExactCountEndsRow : OpenClaim := { program := "ytmdgkhebefnfeab", sum := "891b002edce2cf7bf4f9312f804bf00f440bedfe1615b7fe571608a92fa5beff", func := "loop.example/intervalsandplaces/laws.FnExactCountEnds", spec := "fnExactCountEnds", unfollowed := true, recurses := true, apart := false }
def FnExactCountEndsSaid : Prop := fnExactCountEndsRow.holds Try.pinned (OpenSpec.ofChange fnExactCountEndsSpec)

/-- ITS FALSE NEIGHBOUR: 'it returns false'. Refute it at one input. -/
def fnExactCountEndsWrong : ChangeSpec := { name := "fnExactCountEnds", fn := fun _ => fun
  | [d] => { results := [.lit (.bool false)], args := [d] }
  | _ => none }
def FnExactCountEndsWrongFalsely : Prop := fnExactCountEndsRow.holds Try.pinned (OpenSpec.ofChange fnExactCountEndsWrong)

/-- 'laws.FnExactMostBusy': WHATEVER THE INPUT: true; the input reads as it did. -/
def fnExactMostBusySpec : ChangeSpec := { name := "fnExactMostBusy", fn := fun _ => fun
  | [d] => { results := [.lit (.bool true)], args := [d] }
  | _ => none }
def fnExactMostBusyRow : OpenClaim := { program := "ytmdgkhebefnfeab", sum := "891b002edce2cf7bf4f9312f804bf00f440bedfe1615b7fe571608a92fa5beff", func := "loop.example/intervalsandplaces/laws.FnExactMostBusy", spec := "fnExactMostBusy", unfollowed := true, recurses := true, apart := false }
def FnExactMostBusySaid : Prop := fnExactMostBusyRow.holds Try.pinned (OpenSpec.ofChange fnExactMostBusySpec)

/-- ITS FALSE NEIGHBOUR: 'it returns false'. Refute it at one input. -/
def fnExactMostBusyWrong : ChangeSpec := { name := "fnExactMostBusy", fn := fun _ => fun
  | [d] => { results := [.lit (.bool false)], args := [d] }
  | _ => none }
def FnExactMostBusyWrongFalsely : Prop := fnExactMostBusyRow.holds Try.pinned (OpenSpec.ofChange fnExactMostBusyWrong)

/-- 'laws.FnExactCoveredOf': WHATEVER THE INPUT: true; the input reads as it did. -/
def fnExactCoveredOfSpec : ChangeSpec := { name := "fnExactCoveredOf", fn := fun _ => fun
  | [d] => { results := [.lit (.bool true)], args := [d] }
  | _ => none }
def fnExactCoveredOfRow : OpenClaim := { program := "ytmdgkhebefnfeab", sum := "891b002edce2cf7bf4f9312f804bf00f440bedfe1615b7fe571608a92fa5beff", func := "loop.example/intervalsandplaces/laws.FnExactCoveredOf", spec := "fnExactCoveredOf", unfollowed := true, recurses := true, apart := false }
def FnExactCoveredOfSaid : Prop := fnExactCoveredOfRow.holds Try.pinned (OpenSpec.ofChange fnExactCoveredOfSpec)

/-- ITS FALSE NEIGHBOUR: 'it returns false'. Refute it at one input. -/
def fnExactCoveredOfWrong : ChangeSpec := { name := "fnExactCoveredOf", fn := fun _ => fun
  | [d] => { results := [.lit (.bool false)], args := [d] }
  | _ => none }
def FnExactCoveredOfWrongFalsely : Prop := fnExactCoveredOfRow.holds Try.pinned (OpenSpec.ofChange fnExactCoveredOfWrong)

/-- 'laws.FnExactSortPoints': WHATEVER THE INPUT: true; the input reads as it did. -/
def fnExactSortPointsSpec : ChangeSpec := { name := "fnExactSortPoints", fn := fun _ => fun
  | [d] => { results := [.lit (.bool true)], args := [d] }
  | _ => none }
def fnExactSortPointsRow : OpenClaim := { program := "ytmdgkhebefnfeab", sum := "891b002edce2cf7bf4f9312f804bf00f440bedfe1615b7fe571608a92fa5beff", func := "loop.example/intervalsandplaces/laws.FnExactSortPoints", spec := "fnExactSortPoints", recurses := true, apart := false }
def FnExactSortPointsSaid : Prop := fnExactSortPointsRow.holds Try.pinned (OpenSpec.ofChange fnExactSortPointsSpec)

/-- ITS FALSE NEIGHBOUR: 'it returns false'. Refute it at one input. -/
def fnExactSortPointsWrong : ChangeSpec := { name := "fnExactSortPoints", fn := fun _ => fun
  | [d] => { results := [.lit (.bool false)], args := [d] }
  | _ => none }
def FnExactSortPointsWrongFalsely : Prop := fnExactSortPointsRow.holds Try.pinned (OpenSpec.ofChange fnExactSortPointsWrong)

/-- 'laws.FnExactRanksOfPoints': WHATEVER THE INPUT: true; the input reads as it did. -/
def fnExactRanksOfPointsSpec : ChangeSpec := { name := "fnExactRanksOfPoints", fn := fun _ => fun
  | [d] => { results := [.lit (.bool true)], args := [d] }
  | _ => none }
def fnExactRanksOfPointsRow : OpenClaim := { program := "ytmdgkhebefnfeab", sum := "891b002edce2cf7bf4f9312f804bf00f440bedfe1615b7fe571608a92fa5beff", func := "loop.example/intervalsandplaces/laws.FnExactRanksOfPoints", spec := "fnExactRanksOfPoints", recurses := true, apart := false }
def FnExactRanksOfPointsSaid : Prop := fnExactRanksOfPointsRow.holds Try.pinned (OpenSpec.ofChange fnExactRanksOfPointsSpec)

/-- ITS FALSE NEIGHBOUR: 'it returns false'. Refute it at one input. -/
def fnExactRanksOfPointsWrong : ChangeSpec := { name := "fnExactRanksOfPoints", fn := fun _ => fun
  | [d] => { results := [.lit (.bool false)], args := [d] }
  | _ => none }
def FnExactRanksOfPointsWrongFalsely : Prop := fnExactRanksOfPointsRow.holds Try.pinned (OpenSpec.ofChange fnExactRanksOfPointsWrong)

/-- 'laws.FnSortPoints': WHATEVER THE INPUT: true; the input reads as it did. -/
def fnSortPointsSpec : ChangeSpec := { name := "fnSortPoints", fn := fun _ => fun
  | [d] => { results := [.lit (.bool true)], args := [d] }
  | _ => none }
def fnSortPointsRow : OpenClaim := { program := "ytmdgkhebefnfeab", sum := "891b002edce2cf7bf4f9312f804bf00f440bedfe1615b7fe571608a92fa5beff", func := "loop.example/intervalsandplaces/laws.FnSortPoints", spec := "fnSortPoints", recurses := true, apart := false }
def FnSortPointsSaid : Prop := fnSortPointsRow.holds Try.pinned (OpenSpec.ofChange fnSortPointsSpec)

/-- ITS FALSE NEIGHBOUR: 'it returns false'. Refute it at one input. -/
def fnSortPointsWrong : ChangeSpec := { name := "fnSortPoints", fn := fun _ => fun
  | [d] => { results := [.lit (.bool false)], args := [d] }
  | _ => none }
def FnSortPointsWrongFalsely : Prop := fnSortPointsRow.holds Try.pinned (OpenSpec.ofChange fnSortPointsWrong)

/-- 'laws.FnBusy': WHATEVER THE INPUT: true; the input reads as it did. -/
def fnBusySpec : ChangeSpec := { name := "fnBusy", fn := fun _ => fun
  | [d] => { results := [.lit (.bool true)], args := [d] }
  | _ => none }
def fnBusyRow : OpenClaim := { program := "ytmdgkhebefnfeab", sum := "891b002edce2cf7bf4f9312f804bf00f440bedfe1615b7fe571608a92fa5beff", func := "loop.example/intervalsandplaces/laws.FnBusy", spec := "fnBusy", unfollowed := true, recurses := true, apart := false }
def FnBusySaid : Prop := fnBusyRow.holds Try.pinned (OpenSpec.ofChange fnBusySpec)

/-- ITS FALSE NEIGHBOUR: 'it returns false'. Refute it at one input. -/
def fnBusyWrong : ChangeSpec := { name := "fnBusy", fn := fun _ => fun
  | [d] => { results := [.lit (.bool false)], args := [d] }
  | _ => none }
def FnBusyWrongFalsely : Prop := fnBusyRow.holds Try.pinned (OpenSpec.ofChange fnBusyWrong)

/- THE SECOND FORM. 'bulk': how many values and letters a reading holds, each counted each time it is reached (what is shared counts as often as it is met; a slice's spare places count too). A statement '..UptoSaid' is the law's where the arguments, and the package variables that the reading takes, are together of bulk at most 1048576: NARROWER than '..Said'. Prove '..Said' where nothing that the law and all that it calls make is longer than what came in: it says more and counts as full. Else prove '..UptoSaid'. A law counts once. -/
mutual
def uptoBulk {H : Type} : DataW H → Nat
  | .lit (.string bytes) => bytes.length + 1
  | .lit _ => 1
  | .nil => 1
  | .ptr d => uptoBulk d + 1
  | .slice elems spare => uptoBulkAll elems + uptoBulkAll spare + 1
  | .agg parts => uptoBulkAll parts + 1
  | .iface _ d => uptoBulk d + 1
  | .map entries => uptoBulkEntries entries + 1
  | .held _ => 1
def uptoBulkAll {H : Type} : List (DataW H) → Nat
  | [] => 0
  | d :: r => uptoBulk d + uptoBulkAll r
def uptoBulkEntries {H : Type} : List (Lit × DataW H) → Nat
  | [] => 0
  | x :: r => uptoBulkEntry x + uptoBulkEntries r
def uptoBulkEntry {H : Type} : Lit × DataW H → Nat
  | (.string bytes, d) => bytes.length + uptoBulk d + 1
  | (_, d) => uptoBulk d + 1
 end
def uptoSmall : (H : Type) → List (DataW H) → Bool := fun _ ds => decide (uptoBulkAll ds ≤ 1048576)
def OpenSpec.upto (s : _root_.Go.ChangeSpec) : _root_.Go.OpenSpec := { _root_.Go.OpenSpec.ofChange s with cond := some uptoSmall }

/-- 'laws.FnExactCountEnds', WHERE WHAT IT READS IS OF BULK AT MOST 1048576: true; the input reads as it did. -/
def fnExactCountEndsUptoRow : OpenClaim := { program := "ytmdgkhebefnfeab", sum := "891b002edce2cf7bf4f9312f804bf00f440bedfe1615b7fe571608a92fa5beff", func := "loop.example/intervalsandplaces/laws.FnExactCountEnds", spec := "fnExactCountEnds", unfollowed := true, recurses := true, apart := false, narrowed := true }
def FnExactCountEndsUptoSaid : Prop := fnExactCountEndsUptoRow.holds Try.pinned (OpenSpec.upto fnExactCountEndsSpec)

/-- 'laws.FnExactMostBusy', WHERE WHAT IT READS IS OF BULK AT MOST 1048576: true; the input reads as it did. -/
def fnExactMostBusyUptoRow : OpenClaim := { program := "ytmdgkhebefnfeab", sum := "891b002edce2cf7bf4f9312f804bf00f440bedfe1615b7fe571608a92fa5beff", func := "loop.example/intervalsandplaces/laws.FnExactMostBusy", spec := "fnExactMostBusy", unfollowed := true, recurses := true, apart := false, narrowed := true }
def FnExactMostBusyUptoSaid : Prop := fnExactMostBusyUptoRow.holds Try.pinned (OpenSpec.upto fnExactMostBusySpec)

/-- 'laws.FnExactCoveredOf', WHERE WHAT IT READS IS OF BULK AT MOST 1048576: true; the input reads as it did. -/
def fnExactCoveredOfUptoRow : OpenClaim := { program := "ytmdgkhebefnfeab", sum := "891b002edce2cf7bf4f9312f804bf00f440bedfe1615b7fe571608a92fa5beff", func := "loop.example/intervalsandplaces/laws.FnExactCoveredOf", spec := "fnExactCoveredOf", unfollowed := true, recurses := true, apart := false, narrowed := true }
def FnExactCoveredOfUptoSaid : Prop := fnExactCoveredOfUptoRow.holds Try.pinned (OpenSpec.upto fnExactCoveredOfSpec)

/-- 'laws.FnExactSortPoints', WHERE WHAT IT READS IS OF BULK AT MOST 1048576: true; the input reads as it did. -/
def fnExactSortPointsUptoRow : OpenClaim := { program := "ytmdgkhebefnfeab", sum := "891b002edce2cf7bf4f9312f804bf00f440bedfe1615b7fe571608a92fa5beff", func := "loop.example/intervalsandplaces/laws.FnExactSortPoints", spec := "fnExactSortPoints", recurses := true, apart := false, narrowed := true }
def FnExactSortPointsUptoSaid : Prop := fnExactSortPointsUptoRow.holds Try.pinned (OpenSpec.upto fnExactSortPointsSpec)

/-- 'laws.FnExactRanksOfPoints', WHERE WHAT IT READS IS OF BULK AT MOST 1048576: true; the input reads as it did. -/
def fnExactRanksOfPointsUptoRow : OpenClaim := { program := "ytmdgkhebefnfeab", sum := "891b002edce2cf7bf4f9312f804bf00f440bedfe1615b7fe571608a92fa5beff", func := "loop.example/intervalsandplaces/laws.FnExactRanksOfPoints", spec := "fnExactRanksOfPoints", recurses := true, apart := false, narrowed := true }
def FnExactRanksOfPointsUptoSaid : Prop := fnExactRanksOfPointsUptoRow.holds Try.pinned (OpenSpec.upto fnExactRanksOfPointsSpec)

/-- 'laws.FnSortPoints', WHERE WHAT IT READS IS OF BULK AT MOST 1048576: true; the input reads as it did. -/
def fnSortPointsUptoRow : OpenClaim := { program := "ytmdgkhebefnfeab", sum := "891b002edce2cf7bf4f9312f804bf00f440bedfe1615b7fe571608a92fa5beff", func := "loop.example/intervalsandplaces/laws.FnSortPoints", spec := "fnSortPoints", recurses := true, apart := false, narrowed := true }
def FnSortPointsUptoSaid : Prop := fnSortPointsUptoRow.holds Try.pinned (OpenSpec.upto fnSortPointsSpec)

/-- 'laws.FnBusy', WHERE WHAT IT READS IS OF BULK AT MOST 1048576: true; the input reads as it did. -/
def fnBusyUptoRow : OpenClaim := { program := "ytmdgkhebefnfeab", sum := "891b002edce2cf7bf4f9312f804bf00f440bedfe1615b7fe571608a92fa5beff", func := "loop.example/intervalsandplaces/laws.FnBusy", spec := "fnBusy", unfollowed := true, recurses := true, apart := false, narrowed := true }
def FnBusyUptoSaid : Prop := fnBusyUptoRow.holds Try.pinned (OpenSpec.upto fnBusySpec)

end Rows
end Go.Proofs.Ytmdgkhebefnfeab
