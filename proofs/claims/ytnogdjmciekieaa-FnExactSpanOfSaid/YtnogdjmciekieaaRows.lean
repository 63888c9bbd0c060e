/-
  No cell of these rows narrows 'for every input' (looked for: loops, veiled, ifaces, maps, wideKeys, modest, calm, conditions, laid).
  DERIVED. THE GIVEN ROWS OF THIS SEAT. 8 by the template 'for every input the law returns true; each argument reads behind the call as it read before'; 0 by the template 'total and deterministic' (their statements: YtnogdjmciekieaaTotals.lean).
  GIVEN WITH THE SEED: the statements are not yours to turn. If you find one false, say at which input.
  Laid BY PROGRAM, IN A SANDBOX (cutbox-rows.mjs): the forced cells as the released guide's own fill.sh prints them over the translation fb1b76515d810e59… (all of the seat's roots in one cut). By AI agents, Wed Nov 11 2026. No macro, syntax, notation, axiom, sorry.
-/
import Derived.Test.YtnogdjmciekieaaChecked
import GoSem.Claim
import GoSem.ClaimJoined
import GoSem.ClaimMapViews
import Derived.JoinedTies
import Derived.KernelRfl
namespace Go.Proofs.Ytnogdjmciekieaa
/- THE CELL 'sum', in the pinned program and in every row, IS THE sha256 OF THE DUMP (.gsa) THAT YtnogdjmciekieaaProg.lean LOADS. Nothing in Lean hashes anything: it is a label: what it is worth is what the hold of that sum in a sandbox is worth. -/
noncomputable def Try.pinned : Pinned := { name := "ytnogdjmciekieaa", sum := "fb1b76515d810e5997f2bfc11006882cd4644f89cda733edb660a006b11c1cee", checked := Try.checked }
namespace Rows
def none {H : Type} : Left H := { results := [], args := [] }

/-- 'laws.FnExactShiftModel': WHATEVER THE INPUT: true; the input reads as it did. -/
def fnExactShiftModelSpec : ChangeSpec := { name := "fnExactShiftModel", fn := fun _ => fun
  | [d1, d2] => { results := [.lit (.bool true)], args := [d1, d2] }
  | _ => none }
def fnExactShiftModelRow : OpenClaim := { program := "ytnogdjmciekieaa", sum := "fb1b76515d810e5997f2bfc11006882cd4644f89cda733edb660a006b11c1cee", func := "loop.example/intervalsandplaces/laws.FnExactShiftModel", spec := "fnExactShiftModel", unfollowed := true, recurses := true, apart := false }
def FnExactShiftModelSaid : Prop := fnExactShiftModelRow.holds Try.pinned (OpenSpec.ofChange fnExactShiftModelSpec)

/-- ITS FALSE NEIGHBOUR: 'it returns false'. Refute it at one input. -/
def fnExactShiftModelWrong : ChangeSpec := { name := "fnExactShiftModel", fn := fun _ => fun
  | [d1, d2] => { results := [.lit (.bool false)], args := [d1, d2] }
  | _ => none }
def FnExactShiftModelWrongFalsely : Prop := fnExactShiftModelRow.holds Try.pinned (OpenSpec.ofChange fnExactShiftModelWrong)

/-- 'laws.FnExactBusyAt': WHATEVER THE INPUT: true; the input reads as it did. -/
def fnExactBusyAtSpec : ChangeSpec := { name := "fnExactBusyAt", fn := fun _ => fun
  | [d1, d2] => { results := [.lit (.bool true)], args := [d1, d2] }
  | _ => none }
def fnExactBusyAtRow : OpenClaim := { program := "ytnogdjmciekieaa", sum := "fb1b76515d810e5997f2bfc11006882cd4644f89cda733edb660a006b11c1cee", func := "loop.example/intervalsandplaces/laws.FnExactBusyAt", spec := "fnExactBusyAt", unfollowed := true, recurses := true, apart := false }
def FnExactBusyAtSaid : Prop := fnExactBusyAtRow.holds Try.pinned (OpenSpec.ofChange fnExactBusyAtSpec)

/-- ITS FALSE NEIGHBOUR: 'it returns false'. Refute it at one input. -/
def fnExactBusyAtWrong : ChangeSpec := { name := "fnExactBusyAt", fn := fun _ => fun
  | [d1, d2] => { results := [.lit (.bool false)], args := [d1, d2] }
  | _ => none }
def FnExactBusyAtWrongFalsely : Prop := fnExactBusyAtRow.holds Try.pinned (OpenSpec.ofChange fnExactBusyAtWrong)

/-- 'laws.FnExactCountEnds': WHATEVER THE INPUT: true; the input reads as it did. -/
def fnExactCountEndsSpec : ChangeSpec := { name := "fnExactCountEnds", fn := fun _ => fun
  | [d] => { results := [.lit (.bool true)], args := [d] }
  | _ => none }
def fnExactCountEndsRow : OpenClaim := { program := "ytnogdjmciekieaa", sum := "fb1b76515d810e5997f2bfc11006882cd4644f89cda733edb660a006b11c1cee", func := "loop.example/intervalsandplaces/laws.FnExactCountEnds", spec := "fnExactCountEnds", unfollowed := true, recurses := true, apart := false }
def FnExactCountEndsSaid : Prop := fnExactCountEndsRow.holds Try.pinned (OpenSpec.ofChange fnExactCountEndsSpec)

/-- ITS FALSE NEIGHBOUR: 'it returns false'. Refute it at one input. -/
def fnExactCountEndsWrong : ChangeSpec := { name := "fnExactCountEnds", fn := fun _ => fun
  | [d] => { results := [.lit (.bool false)], args := [d] }
  | _ => none }
def FnExactCountEndsWrongFalsely : Prop := fnExactCountEndsRow.holds Try.pinned (OpenSpec.ofChange fnExactCountEndsWrong)

/-- 'laws.FnExactSpanOf': WHATEVER THE INPUT: true; the input reads as it did. -/
def fnExactSpanOfSpec : ChangeSpec := { name := "fnExactSpanOf", fn := fun _ => fun
  | [d] => { results := [.lit (.bool true)], args := [d] }
  | _ => none }
def fnExactSpanOfRow : OpenClaim := { program := "ytnogdjmciekieaa", sum := "fb1b76515d810e5997f2bfc11006882cd4644f89cda733edb660a006b11c1cee", func := "loop.example/intervalsandplaces/laws.FnExactSpanOf", spec := "fnExactSpanOf", unfollowed := true, recurses := true, apart := false }
def FnExactSpanOfSaid : Prop := fnExactSpanOfRow.holds Try.pinned (OpenSpec.ofChange fnExactSpanOfSpec)

/-- ITS FALSE NEIGHBOUR: 'it returns false'. Refute it at one input. -/
def fnExactSpanOfWrong : ChangeSpec := { name := "fnExactSpanOf", fn := fun _ => fun
  | [d] => { results := [.lit (.bool false)], args := [d] }
  | _ => none }
def FnExactSpanOfWrongFalsely : Prop := fnExactSpanOfRow.holds Try.pinned (OpenSpec.ofChange fnExactSpanOfWrong)

/-- 'laws.FnExactMostBusy': WHATEVER THE INPUT: true; the input reads as it did. -/
def fnExactMostBusySpec : ChangeSpec := { name := "fnExactMostBusy", fn := fun _ => fun
  | [d] => { results := [.lit (.bool true)], args := [d] }
  | _ => none }
def fnExactMostBusyRow : OpenClaim := { program := "ytnogdjmciekieaa", sum := "fb1b76515d810e5997f2bfc11006882cd4644f89cda733edb660a006b11c1cee", func := "loop.example/intervalsandplaces/laws.FnExactMostBusy", spec := "fnExactMostBusy", unfollowed := true, recurses := true, apart := false }
def FnExactMostBusySaid : Prop := fnExactMostBusyRow.holds Try.pinned (OpenSpec.ofChange fnExactMostBusySpec)

/-- ITS FALSE NEIGHBOUR: 'it returns false'. Refute it at one input. -/
def fnExactMostBusyWrong : ChangeSpec := { name := "fnExactMostBusy", fn := fun _ => fun
  | [d] => { results := [.lit (.bool false)], args := [d] }
  | _ => none }
def FnExactMostBusyWrongFalsely : Prop := fnExactMostBusyRow.holds Try.pinned (OpenSpec.ofChange fnExactMostBusyWrong)

/-- 'laws.FnExactCoveredOf': WHATEVER THE INPUT: true; the input reads as it did. -/
def fnExactCoveredOfSpec : ChangeSpec := { name := "fnExactCoveredOf", fn := fun _ => fun
  | [d] => { results := [.lit (.bool true)], args := [d] }
  | _ => none }
def fnExactCoveredOfRow : OpenClaim := { program := "ytnogdjmciekieaa", sum := "fb1b76515d810e5997f2bfc11006882cd4644f89cda733edb660a006b11c1cee", func := "loop.example/intervalsandplaces/laws.FnExactCoveredOf", spec := "fnExactCoveredOf", unfollowed := true, recurses := true, apart := false }
def FnExactCoveredOfSaid : Prop := fnExactCoveredOfRow.holds Try.pinned (OpenSpec.ofChange fnExactCoveredOfSpec)

/-- ITS FALSE NEIGHBOUR: 'it returns false'. Refute it at one input. -/
def fnExactCoveredOfWrong : ChangeSpec := { name := "fnExactCoveredOf", fn := fun _ => fun
  | [d] => { results := [.lit (.bool false)], args := [d] }
  | _ => none }
def FnExactCoveredOfWrongFalsely : Prop := fnExactCoveredOfRow.holds Try.pinned (OpenSpec.ofChange fnExactCoveredOfWrong)

/-- 'laws.FnExactPackModel': WHATEVER THE INPUT: true; the input reads as it did. -/
def fnExactPackModelSpec : ChangeSpec := { name := "fnExactPackModel", fn := fun _ => fun
  | [d] => { results := [.lit (.bool true)], args := [d] }
  | _ => none }
def fnExactPackModelRow : OpenClaim := { program := "ytnogdjmciekieaa", sum := "fb1b76515d810e5997f2bfc11006882cd4644f89cda733edb660a006b11c1cee", func := "loop.example/intervalsandplaces/laws.FnExactPackModel", spec := "fnExactPackModel", unfollowed := true, recurses := true, apart := false }
def FnExactPackModelSaid : Prop := fnExactPackModelRow.holds Try.pinned (OpenSpec.ofChange fnExactPackModelSpec)

/-- ITS FALSE NEIGHBOUR: 'it returns false'. Refute it at one input. -/
def fnExactPackModelWrong : ChangeSpec := { name := "fnExactPackModel", fn := fun _ => fun
  | [d] => { results := [.lit (.bool false)], args := [d] }
  | _ => none }
def FnExactPackModelWrongFalsely : Prop := fnExactPackModelRow.holds Try.pinned (OpenSpec.ofChange fnExactPackModelWrong)

/-- 'laws.FnExactShowModel': WHATEVER THE INPUT: true; the input reads as it did. -/
def fnExactShowModelSpec : ChangeSpec := { name := "fnExactShowModel", fn := fun _ => fun
  | [d] => { results := [.lit (.bool true)], args := [d] }
  | _ => none }
def fnExactShowModelRow : OpenClaim := { program := "ytnogdjmciekieaa", sum := "fb1b76515d810e5997f2bfc11006882cd4644f89cda733edb660a006b11c1cee", func := "loop.example/intervalsandplaces/laws.FnExactShowModel", spec := "fnExactShowModel", inPlace := ["internal/abi.NoEscape", "internal/bytealg.MakeNoZero"], unfollowed := true, recurses := true, apart := false }
def FnExactShowModelSaid : Prop := fnExactShowModelRow.holds Try.pinned (OpenSpec.ofChange fnExactShowModelSpec)

/-- ITS FALSE NEIGHBOUR: 'it returns false'. Refute it at one input. -/
def fnExactShowModelWrong : ChangeSpec := { name := "fnExactShowModel", fn := fun _ => fun
  | [d] => { results := [.lit (.bool false)], args := [d] }
  | _ => none }
def FnExactShowModelWrongFalsely : Prop := fnExactShowModelRow.holds Try.pinned (OpenSpec.ofChange fnExactShowModelWrong)

/- THE SECOND FORM. 'bulk': how many values and letters a reading holds, each counted each time it is reached (what is shared counts as often as it is met; a slice's spare places count too). A statement '..UptoSaid' is the law's where the arguments, and the package variables that the reading takes, are together of bulk at most 1048576: NARROWER than '..Said'. Prove '..Said' where nothing that the law and all that it calls make is longer than what came in: it says more and counts as full. Else prove '..UptoSaid'. A law counts once. -/
mutual
def uptoBulk {H : Type} : DataW H → Nat
  | .lit (.string bytes) => bytes.length + 1
  | .lit _ => 1
  | .nil => 1
  | .ptr d => uptoBulk d + 1
  | .slice elems spare => uptoBulkAll elems + uptoBulkAll spare + 1
  | .agg parts => uptoBulkAll parts + 1
  | .iface _ d => uptoBulk d + 1
  | .map entries => uptoBulkEntries entries + 1
  | .held _ => 1
def uptoBulkAll {H : Type} : List (DataW H) → Nat
  | [] => 0
  | d :: r => uptoBulk d + uptoBulkAll r
def uptoBulkEntries {H : Type} : List (Lit × DataW H) → Nat
  | [] => 0
  | x :: r => uptoBulkEntry x + uptoBulkEntries r
def uptoBulkEntry {H : Type} : Lit × DataW H → Nat
  | (.string bytes, d) => bytes.length + uptoBulk d + 1
  | (_, d) => uptoBulk d + 1
 end
def uptoSmall : (H : Type) → List (DataW H) → Bool := fun _ ds => decide (uptoBulkAll ds ≤ 1048576)
def OpenSpec.upto (s : _root_.Go.ChangeSpec) : _root_.Go.OpenSpec := { _root_.Go.OpenSpec.ofChange s with cond := some uptoSmall }

/-- 'laws.FnExactShiftModel', WHERE WHAT IT READS IS OF BULK AT MOST 1048576: true; the input reads as it did. -/
def fnExactShiftModelUptoRow : OpenClaim := { program := "ytnogdjmciekieaa", sum := "fb1b76515d810e5997f2bfc11006882cd4644f89cda733edb660a006b11c1cee", func := "loop.example/intervalsandplaces/laws.FnExactShiftModel", spec := "fnExactShiftModel", unfollowed := true, recurses := true, apart := false, narrowed := true }
def FnExactShiftModelUptoSaid : Prop := fnExactShiftModelUptoRow.holds Try.pinned (OpenSpec.upto fnExactShiftModelSpec)

/-- 'laws.FnExactBusyAt', WHERE WHAT IT READS IS OF BULK AT MOST 1048576: true; the input reads as it did. -/
def fnExactBusyAtUptoRow : OpenClaim := { program := "ytnogdjmciekieaa", sum := "fb1b76515d810e5997f2bfc11006882cd4644f89cda733edb660a006b11c1cee", func := "loop.example/intervalsandplaces/laws.FnExactBusyAt", spec := "fnExactBusyAt", unfollowed := true, recurses := true, apart := false, narrowed := true }
def FnExactBusyAtUptoSaid : Prop := fnExactBusyAtUptoRow.holds Try.pinned (OpenSpec.upto fnExactBusyAtSpec)

/-- 'laws.FnExactCountEnds', WHERE WHAT IT READS IS OF BULK AT MOST 1048576: true; the input reads as it did. -/
def fnExactCountEndsUptoRow : OpenClaim := { program := "ytnogdjmciekieaa", sum := "fb1b76515d810e5997f2bfc11006882cd4644f89cda733edb660a006b11c1cee", func := "loop.example/intervalsandplaces/laws.FnExactCountEnds", spec := "fnExactCountEnds", unfollowed := true, recurses := true, apart := false, narrowed := true }
def FnExactCountEndsUptoSaid : Prop := fnExactCountEndsUptoRow.holds Try.pinned (OpenSpec.upto fnExactCountEndsSpec)

/-- 'laws.FnExactSpanOf', WHERE WHAT IT READS IS OF BULK AT MOST 1048576: true; the input reads as it did. -/
def fnExactSpanOfUptoRow : OpenClaim := { program := "ytnogdjmciekieaa", sum := "fb1b76515d810e5997f2bfc11006882cd4644f89cda733edb660a006b11c1cee", func := "loop.example/intervalsandplaces/laws.FnExactSpanOf", spec := "fnExactSpanOf", unfollowed := true, recurses := true, apart := false, narrowed := true }
def FnExactSpanOfUptoSaid : Prop := fnExactSpanOfUptoRow.holds Try.pinned (OpenSpec.upto fnExactSpanOfSpec)

/-- 'laws.FnExactMostBusy', WHERE WHAT IT READS IS OF BULK AT MOST 1048576: true; the input reads as it did. -/
def fnExactMostBusyUptoRow : OpenClaim := { program := "ytnogdjmciekieaa", sum := "fb1b76515d810e5997f2bfc11006882cd4644f89cda733edb660a006b11c1cee", func := "loop.example/intervalsandplaces/laws.FnExactMostBusy", spec := "fnExactMostBusy", unfollowed := true, recurses := true, apart := false, narrowed := true }
def FnExactMostBusyUptoSaid : Prop := fnExactMostBusyUptoRow.holds Try.pinned (OpenSpec.upto fnExactMostBusySpec)

/-- 'laws.FnExactCoveredOf', WHERE WHAT IT READS IS OF BULK AT MOST 1048576: true; the input reads as it did. -/
def fnExactCoveredOfUptoRow : OpenClaim := { program := "ytnogdjmciekieaa", sum := "fb1b76515d810e5997f2bfc11006882cd4644f89cda733edb660a006b11c1cee", func := "loop.example/intervalsandplaces/laws.FnExactCoveredOf", spec := "fnExactCoveredOf", unfollowed := true, recurses := true, apart := false, narrowed := true }
def FnExactCoveredOfUptoSaid : Prop := fnExactCoveredOfUptoRow.holds Try.pinned (OpenSpec.upto fnExactCoveredOfSpec)

/-- 'laws.FnExactPackModel', WHERE WHAT IT READS IS OF BULK AT MOST 1048576: true; the input reads as it did. -/
def fnExactPackModelUptoRow : OpenClaim := { program := "ytnogdjmciekieaa", sum := "fb1b76515d810e5997f2bfc11006882cd4644f89cda733edb660a006b11c1cee", func := "loop.example/intervalsandplaces/laws.FnExactPackModel", spec := "fnExactPackModel", unfollowed := true, recurses := true, apart := false, narrowed := true }
def FnExactPackModelUptoSaid : Prop := fnExactPackModelUptoRow.holds Try.pinned (OpenSpec.upto fnExactPackModelSpec)

/-- 'laws.FnExactShowModel', WHERE WHAT IT READS IS OF BULK AT MOST 1048576: true; the input reads as it did. -/
def fnExactShowModelUptoRow : OpenClaim := { program := "ytnogdjmciekieaa", sum := "fb1b76515d810e5997f2bfc11006882cd4644f89cda733edb660a006b11c1cee", func := "loop.example/intervalsandplaces/laws.FnExactShowModel", spec := "fnExactShowModel", inPlace := ["internal/abi.NoEscape", "internal/bytealg.MakeNoZero"], unfollowed := true, recurses := true, apart := false, narrowed := true }
def FnExactShowModelUptoSaid : Prop := fnExactShowModelUptoRow.holds Try.pinned (OpenSpec.upto fnExactShowModelSpec)

end Rows
end Go.Proofs.Ytnogdjmciekieaa
