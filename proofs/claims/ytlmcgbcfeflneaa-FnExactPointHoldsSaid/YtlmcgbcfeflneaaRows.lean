/-
  No cell of these rows narrows 'for every input' (looked for: loops, veiled, ifaces, maps, wideKeys, modest, calm, conditions, laid).
  DERIVED. THE GIVEN ROWS OF THIS SEAT. 4 by the template 'for every input the law returns true; each argument reads behind the call as it read before'; 0 by the template 'total and deterministic' (their statements: YtlmcgbcfeflneaaTotals.lean).
  GIVEN WITH THE SEED: the statements are not yours to turn. If you find one false, say at which input.
  Laid BY PROGRAM, IN A SANDBOX (cutbox-rows.mjs): the forced cells as the released guide's own fill.sh prints them over the translation e5ecf0d61c28a3d2… (all of the seat's roots in one cut). By AI agents, Wed Nov 11 2026. No macro, syntax, notation, axiom, sorry.
-/
import Derived.Test.YtlmcgbcfeflneaaChecked
import GoSem.Claim
import GoSem.ClaimJoined
import GoSem.ClaimMapViews
import Derived.JoinedTies
import Derived.KernelRfl
namespace Go.Proofs.Ytlmcgbcfeflneaa
/- THE CELL 'sum', in the pinned program and in every row, IS THE sha256 OF THE DUMP (.gsa) THAT YtlmcgbcfeflneaaProg.lean LOADS. Nothing in Lean hashes anything: it is a label: what it is worth is what the hold of that sum in a sandbox is worth. -/
noncomputable def Try.pinned : Pinned := { name := "ytlmcgbcfeflneaa", sum := "e5ecf0d61c28a3d2d71001576466e4b6dcb2d7c3653434044ceef187cfb339ac", checked := Try.checked }
namespace Rows
def none {H : Type} : Left H := { results := [], args := [] }

/-- 'laws.FnSortPoints': WHATEVER THE INPUT: true; the input reads as it did. -/
def fnSortPointsSpec : ChangeSpec := { name := "fnSortPoints", fn := fun _ => fun
  | [d] => { results := [.lit (.bool true)], args := [d] }
  | _ => none }
def fnSortPointsRow : OpenClaim := { program := "ytlmcgbcfeflneaa", sum := "e5ecf0d61c28a3d2d71001576466e4b6dcb2d7c3653434044ceef187cfb339ac", func := "loop.example/intervalsandplaces/laws.FnSortPoints", spec := "fnSortPoints", recurses := true, apart := false }
def FnSortPointsSaid : Prop := fnSortPointsRow.holds Try.pinned (OpenSpec.ofChange fnSortPointsSpec)

/-- ITS FALSE NEIGHBOUR: 'it returns false'. Refute it at one input. -/
def fnSortPointsWrong : ChangeSpec := { name := "fnSortPoints", fn := fun _ => fun
  | [d] => { results := [.lit (.bool false)], args := [d] }
  | _ => none }
def FnSortPointsWrongFalsely : Prop := fnSortPointsRow.holds Try.pinned (OpenSpec.ofChange fnSortPointsWrong)

/-- 'laws.FnExactPointValid': WHATEVER THE INPUT: true; the input reads as it did. -/
def fnExactPointValidSpec : ChangeSpec := { name := "fnExactPointValid", fn := fun _ => fun
  | [d] => { results := [.lit (.bool true)], args := [d] }
  | _ => none }
def fnExactPointValidRow : OpenClaim := { program := "ytlmcgbcfeflneaa", sum := "e5ecf0d61c28a3d2d71001576466e4b6dcb2d7c3653434044ceef187cfb339ac", func := "loop.example/intervalsandplaces/laws.FnExactPointValid", spec := "fnExactPointValid", apart := false }
def FnExactPointValidSaid : Prop := fnExactPointValidRow.holds Try.pinned (OpenSpec.ofChange fnExactPointValidSpec)

/-- ITS FALSE NEIGHBOUR: 'it returns false'. Refute it at one input. -/
def fnExactPointValidWrong : ChangeSpec := { name := "fnExactPointValid", fn := fun _ => fun
  | [d] => { results := [.lit (.bool false)], args := [d] }
  | _ => none }
def FnExactPointValidWrongFalsely : Prop := fnExactPointValidRow.holds Try.pinned (OpenSpec.ofChange fnExactPointValidWrong)

/-- 'laws.FnExactOrderOf': WHATEVER THE INPUT: true; the input reads as it did. -/
def fnExactOrderOfSpec : ChangeSpec := { name := "fnExactOrderOf", fn := fun _ => fun
  | [d1, d2] => { results := [.lit (.bool true)], args := [d1, d2] }
  | _ => none }
def fnExactOrderOfRow : OpenClaim := { program := "ytlmcgbcfeflneaa", sum := "e5ecf0d61c28a3d2d71001576466e4b6dcb2d7c3653434044ceef187cfb339ac", func := "loop.example/intervalsandplaces/laws.FnExactOrderOf", spec := "fnExactOrderOf", apart := false }
def FnExactOrderOfSaid : Prop := fnExactOrderOfRow.holds Try.pinned (OpenSpec.ofChange fnExactOrderOfSpec)

/-- ITS FALSE NEIGHBOUR: 'it returns false'. Refute it at one input. -/
def fnExactOrderOfWrong : ChangeSpec := { name := "fnExactOrderOf", fn := fun _ => fun
  | [d1, d2] => { results := [.lit (.bool false)], args := [d1, d2] }
  | _ => none }
def FnExactOrderOfWrongFalsely : Prop := fnExactOrderOfRow.holds Try.pinned (OpenSpec.ofChange fnExactOrderOfWrong)

/-- 'laws.FnExactPointHolds': WHATEVER THE INPUT: true; the input reads as it did. -/
def fnExactPointHoldsSpec : ChangeSpec := { name := "fnExactPointHolds", fn := fun _ => fun
  | [d1, d2, d3] => { results := [.lit (.bool true)], args := [d1, d2, d3] }
  | _ => none }
def fnExactPointHoldsRow : OpenClaim := { program := "ytlmcgbcfeflneaa", sum := "e5ecf0d61c28a3d2d71001576466e4b6dcb2d7c3653434044ceef187cfb339ac", func := "loop.example/intervalsandplaces/laws.FnExactPointHolds", spec := "fnExactPointHolds", apart := false }
def FnExactPointHoldsSaid : Prop := fnExactPointHoldsRow.holds Try.pinned (OpenSpec.ofChange fnExactPointHoldsSpec)

/-- ITS FALSE NEIGHBOUR: 'it returns false'. Refute it at one input. -/
def fnExactPointHoldsWrong : ChangeSpec := { name := "fnExactPointHolds", fn := fun _ => fun
  | [d1, d2, d3] => { results := [.lit (.bool false)], args := [d1, d2, d3] }
  | _ => none }
def FnExactPointHoldsWrongFalsely : Prop := fnExactPointHoldsRow.holds Try.pinned (OpenSpec.ofChange fnExactPointHoldsWrong)

/- THE SECOND FORM. 'bulk': how many values and letters a reading holds, each counted each time it is reached (what is shared counts as often as it is met; a slice's spare places count too). A statement '..UptoSaid' is the law's where the arguments, and the package variables that the reading takes, are together of bulk at most 1048576: NARROWER than '..Said'. Prove '..Said' where nothing that the law and all that it calls make is longer than what came in: it says more and counts as full. Else prove '..UptoSaid'. A law counts once. -/
mutual
def uptoBulk {H : Type} : DataW H → Nat
  | .lit (.string bytes) => bytes.length + 1
  | .lit _ => 1
  | .nil => 1
  | .ptr d => uptoBulk d + 1
  | .slice elems spare => uptoBulkAll elems + uptoBulkAll spare + 1
  | .agg parts => uptoBulkAll parts + 1
  | .iface _ d => uptoBulk d + 1
  | .map entries => uptoBulkEntries entries + 1
  | .held _ => 1
def uptoBulkAll {H : Type} : List (DataW H) → Nat
  | [] => 0
  | d :: r => uptoBulk d + uptoBulkAll r
def uptoBulkEntries {H : Type} : List (Lit × DataW H) → Nat
  | [] => 0
  | x :: r => uptoBulkEntry x + uptoBulkEntries r
def uptoBulkEntry {H : Type} : Lit × DataW H → Nat
  | (.string bytes, d) => bytes.length + uptoBulk d + 1
  | (_, d) => uptoBulk d + 1
 end
def uptoSmall : (H : Type) → List (DataW H) → Bool := fun _ ds => decide (uptoBulkAll ds ≤ 1048576)
def OpenSpec.upto (s : _root_.Go.ChangeSpec) : _root_.Go.OpenSpec := { _root_.Go.OpenSpec.ofChange s with cond := some uptoSmall }

/-- 'laws.FnSortPoints', WHERE WHAT IT READS IS OF BULK AT MOST 1048576: true; the input reads as it did. -/
def fnSortPointsUptoRow : OpenClaim := { program := "ytlmcgbcfeflneaa", sum := "e5ecf0d61c28a3d2d71001576466e4b6dcb2d7c3653434044ceef187cfb339ac", func := "loop.example/intervalsandplaces/laws.FnSortPoints", spec := "fnSortPoints", recurses := true, apart := false, narrowed := true }
def FnSortPointsUptoSaid : Prop := fnSortPointsUptoRow.holds Try.pinned (OpenSpec.upto fnSortPointsSpec)

/-- 'laws.FnExactPointValid', WHERE WHAT IT READS IS OF BULK AT MOST 1048576: true; the input reads as it did. -/
def fnExactPointValidUptoRow : OpenClaim := { program := "ytlmcgbcfeflneaa", sum := "e5ecf0d61c28a3d2d71001576466e4b6dcb2d7c3653434044ceef187cfb339ac", func := "loop.example/intervalsandplaces/laws.FnExactPointValid", spec := "fnExactPointValid", apart := false, narrowed := true }
def FnExactPointValidUptoSaid : Prop := fnExactPointValidUptoRow.holds Try.pinned (OpenSpec.upto fnExactPointValidSpec)

/-- 'laws.FnExactOrderOf', WHERE WHAT IT READS IS OF BULK AT MOST 1048576: true; the input reads as it did. -/
def fnExactOrderOfUptoRow : OpenClaim := { program := "ytlmcgbcfeflneaa", sum := "e5ecf0d61c28a3d2d71001576466e4b6dcb2d7c3653434044ceef187cfb339ac", func := "loop.example/intervalsandplaces/laws.FnExactOrderOf", spec := "fnExactOrderOf", apart := false, narrowed := true }
def FnExactOrderOfUptoSaid : Prop := fnExactOrderOfUptoRow.holds Try.pinned (OpenSpec.upto fnExactOrderOfSpec)

/-- 'laws.FnExactPointHolds', WHERE WHAT IT READS IS OF BULK AT MOST 1048576: true; the input reads as it did. -/
def fnExactPointHoldsUptoRow : OpenClaim := { program := "ytlmcgbcfeflneaa", sum := "e5ecf0d61c28a3d2d71001576466e4b6dcb2d7c3653434044ceef187cfb339ac", func := "loop.example/intervalsandplaces/laws.FnExactPointHolds", spec := "fnExactPointHolds", apart := false, narrowed := true }
def FnExactPointHoldsUptoSaid : Prop := fnExactPointHoldsUptoRow.holds Try.pinned (OpenSpec.upto fnExactPointHoldsSpec)

end Rows
end Go.Proofs.Ytlmcgbcfeflneaa
