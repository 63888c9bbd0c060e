/-
  NARROWER THAN 'FOR EVERY INPUT', by the rows' own cells (each row's printed sentence says how): FnOrderOf: laid · FnPointText: laid · FnComposePoint: laid · FnTurnPoint: laid · FnExactFormatPoint: laid · FnExactParsePoint: laid · FnExactTurnPoint: laid · FnExactComposePoint: laid.
  DERIVED. THE GIVEN ROWS OF THIS SEAT. 8 by the template 'for every input the law returns true; each argument reads behind the call as it read before'; 0 by the template 'total and deterministic' (their statements: YtlmcgbcfeflneaaDoorTotals.lean).
  GIVEN WITH THE SEED: the statements are not yours to turn. If you find one false, say at which input.
  Laid BY PROGRAM, IN A SANDBOX (cutbox-rows.mjs): the forced cells as the released guide's own fill.sh prints them over the translation adf764299751e6a0… (all of the seat's roots in one cut). By AI agents, Wed Nov 11 2026. No macro, syntax, notation, axiom, sorry.
-/
import Derived.Test.YtlmcgbcfeflneaaDoorChecked
import GoSem.Claim
import GoSem.ClaimJoined
import GoSem.ClaimMapViews
import Derived.JoinedTies
import Derived.KernelRfl
namespace Go.Proofs.YtlmcgbcfeflneaaDoor
/- THE CELL 'sum', in the pinned program and in every row, IS THE sha256 OF THE DUMP (.gsa) THAT YtlmcgbcfeflneaaDoorProg.lean LOADS. Nothing in Lean hashes anything: it is a label: what it is worth is what the hold of that sum in a sandbox is worth. -/
noncomputable def Tryd.pinned : Pinned := { name := "ytlmcgbcfeflneaadoor", sum := "adf764299751e6a00dfd5c6e89ae8be9f1aa7eda03ed294064c0b67beb26fbd4", checked := Tryd.checked }
namespace Rows
def none {H : Type} : Left H := { results := [], args := [] }

/- WHAT THE LISTED PACKAGE-LEVEL VARIABLES READ AS WHEN THE CALL BEGINS. Each datum BY PROGRAM (the guide's laid-datum.mjs) off the statement by which the dump's own 'gosem.cut.vars' lays the variable. In a bare row this is a premise. The card (YtlmcgbcfeflneaaDoorCards.lean) ties it to the program's text. -/
def laid_loop_example_intervalsandplaces_impl_everyOrder {H : Type} : DataW H := .agg [.lit (.int .i64 1), .lit (.int .i64 2), .lit (.int .i64 4)]

/-- 'laws.FnOrderOf': WHATEVER THE INPUT: true; the input reads as it did. -/
def fnOrderOfSpec : ChangeSpec := { name := "fnOrderOf", vars := ["loop.example/intervalsandplaces/impl.everyOrder"], fn := fun _ => fun
  | [d, g1] => { results := [.lit (.bool true)], args := [d], vars := [g1] }
  | _ => none }
def fnOrderOfRow : OpenClaim := { program := "ytlmcgbcfeflneaadoor", sum := "adf764299751e6a00dfd5c6e89ae8be9f1aa7eda03ed294064c0b67beb26fbd4", func := "loop.example/intervalsandplaces/laws.FnOrderOf", spec := "fnOrderOf", named := ["loop.example/intervalsandplaces/impl.everyOrder"], apart := false, laid := [("loop.example/intervalsandplaces/impl.everyOrder", laid_loop_example_intervalsandplaces_impl_everyOrder)] }
def FnOrderOfSaid : Prop := fnOrderOfRow.holds Tryd.pinned (OpenSpec.ofChange fnOrderOfSpec)

/-- ITS FALSE NEIGHBOUR: 'it returns false'. Refute it at one input. -/
def fnOrderOfWrong : ChangeSpec := { name := "fnOrderOf", vars := ["loop.example/intervalsandplaces/impl.everyOrder"], fn := fun _ => fun
  | [d, g1] => { results := [.lit (.bool false)], args := [d], vars := [g1] }
  | _ => none }
def FnOrderOfWrongFalsely : Prop := fnOrderOfRow.holds Tryd.pinned (OpenSpec.ofChange fnOrderOfWrong)

/-- 'laws.FnPointText': WHATEVER THE INPUT: true; the input reads as it did. -/
def fnPointTextSpec : ChangeSpec := { name := "fnPointText", vars := ["loop.example/intervalsandplaces/impl.everyOrder"], fn := fun _ => fun
  | [d1, d2, g1] => { results := [.lit (.bool true)], args := [d1, d2], vars := [g1] }
  | _ => none }
def fnPointTextRow : OpenClaim := { program := "ytlmcgbcfeflneaadoor", sum := "adf764299751e6a00dfd5c6e89ae8be9f1aa7eda03ed294064c0b67beb26fbd4", func := "loop.example/intervalsandplaces/laws.FnPointText", spec := "fnPointText", inPlace := ["internal/abi.NoEscape"], named := ["loop.example/intervalsandplaces/impl.everyOrder"], apart := false, laid := [("loop.example/intervalsandplaces/impl.everyOrder", laid_loop_example_intervalsandplaces_impl_everyOrder)] }
def FnPointTextSaid : Prop := fnPointTextRow.holds Tryd.pinned (OpenSpec.ofChange fnPointTextSpec)

/-- ITS FALSE NEIGHBOUR: 'it returns false'. Refute it at one input. -/
def fnPointTextWrong : ChangeSpec := { name := "fnPointText", vars := ["loop.example/intervalsandplaces/impl.everyOrder"], fn := fun _ => fun
  | [d1, d2, g1] => { results := [.lit (.bool false)], args := [d1, d2], vars := [g1] }
  | _ => none }
def FnPointTextWrongFalsely : Prop := fnPointTextRow.holds Tryd.pinned (OpenSpec.ofChange fnPointTextWrong)

/-- 'laws.FnComposePoint': WHATEVER THE INPUT: true; the input reads as it did. -/
def fnComposePointSpec : ChangeSpec := { name := "fnComposePoint", vars := ["loop.example/intervalsandplaces/impl.everyOrder"], fn := fun _ => fun
  | [d1, d2, g1] => { results := [.lit (.bool true)], args := [d1, d2], vars := [g1] }
  | _ => none }
def fnComposePointRow : OpenClaim := { program := "ytlmcgbcfeflneaadoor", sum := "adf764299751e6a00dfd5c6e89ae8be9f1aa7eda03ed294064c0b67beb26fbd4", func := "loop.example/intervalsandplaces/laws.FnComposePoint", spec := "fnComposePoint", named := ["loop.example/intervalsandplaces/impl.everyOrder"], apart := false, laid := [("loop.example/intervalsandplaces/impl.everyOrder", laid_loop_example_intervalsandplaces_impl_everyOrder)] }
def FnComposePointSaid : Prop := fnComposePointRow.holds Tryd.pinned (OpenSpec.ofChange fnComposePointSpec)

/-- ITS FALSE NEIGHBOUR: 'it returns false'. Refute it at one input. -/
def fnComposePointWrong : ChangeSpec := { name := "fnComposePoint", vars := ["loop.example/intervalsandplaces/impl.everyOrder"], fn := fun _ => fun
  | [d1, d2, g1] => { results := [.lit (.bool false)], args := [d1, d2], vars := [g1] }
  | _ => none }
def FnComposePointWrongFalsely : Prop := fnComposePointRow.holds Tryd.pinned (OpenSpec.ofChange fnComposePointWrong)

/-- 'laws.FnTurnPoint': WHATEVER THE INPUT: true; the input reads as it did. -/
def fnTurnPointSpec : ChangeSpec := { name := "fnTurnPoint", vars := ["loop.example/intervalsandplaces/impl.everyOrder"], fn := fun _ => fun
  | [d, g1] => { results := [.lit (.bool true)], args := [d], vars := [g1] }
  | _ => none }
def fnTurnPointRow : OpenClaim := { program := "ytlmcgbcfeflneaadoor", sum := "adf764299751e6a00dfd5c6e89ae8be9f1aa7eda03ed294064c0b67beb26fbd4", func := "loop.example/intervalsandplaces/laws.FnTurnPoint", spec := "fnTurnPoint", named := ["loop.example/intervalsandplaces/impl.everyOrder"], apart := false, laid := [("loop.example/intervalsandplaces/impl.everyOrder", laid_loop_example_intervalsandplaces_impl_everyOrder)] }
def FnTurnPointSaid : Prop := fnTurnPointRow.holds Tryd.pinned (OpenSpec.ofChange fnTurnPointSpec)

/-- ITS FALSE NEIGHBOUR: 'it returns false'. Refute it at one input. -/
def fnTurnPointWrong : ChangeSpec := { name := "fnTurnPoint", vars := ["loop.example/intervalsandplaces/impl.everyOrder"], fn := fun _ => fun
  | [d, g1] => { results := [.lit (.bool false)], args := [d], vars := [g1] }
  | _ => none }
def FnTurnPointWrongFalsely : Prop := fnTurnPointRow.holds Tryd.pinned (OpenSpec.ofChange fnTurnPointWrong)

/-- 'laws.FnExactFormatPoint': WHATEVER THE INPUT: true; the input reads as it did. -/
def fnExactFormatPointSpec : ChangeSpec := { name := "fnExactFormatPoint", vars := ["loop.example/intervalsandplaces/impl.everyOrder"], fn := fun _ => fun
  | [d, g1] => { results := [.lit (.bool true)], args := [d], vars := [g1] }
  | _ => none }
def fnExactFormatPointRow : OpenClaim := { program := "ytlmcgbcfeflneaadoor", sum := "adf764299751e6a00dfd5c6e89ae8be9f1aa7eda03ed294064c0b67beb26fbd4", func := "loop.example/intervalsandplaces/laws.FnExactFormatPoint", spec := "fnExactFormatPoint", inPlace := ["internal/abi.NoEscape"], named := ["loop.example/intervalsandplaces/impl.everyOrder"], apart := false, laid := [("loop.example/intervalsandplaces/impl.everyOrder", laid_loop_example_intervalsandplaces_impl_everyOrder)] }
def FnExactFormatPointSaid : Prop := fnExactFormatPointRow.holds Tryd.pinned (OpenSpec.ofChange fnExactFormatPointSpec)

/-- ITS FALSE NEIGHBOUR: 'it returns false'. Refute it at one input. -/
def fnExactFormatPointWrong : ChangeSpec := { name := "fnExactFormatPoint", vars := ["loop.example/intervalsandplaces/impl.everyOrder"], fn := fun _ => fun
  | [d, g1] => { results := [.lit (.bool false)], args := [d], vars := [g1] }
  | _ => none }
def FnExactFormatPointWrongFalsely : Prop := fnExactFormatPointRow.holds Tryd.pinned (OpenSpec.ofChange fnExactFormatPointWrong)

/-- 'laws.FnExactParsePoint': WHATEVER THE INPUT: true; the input reads as it did. -/
def fnExactParsePointSpec : ChangeSpec := { name := "fnExactParsePoint", vars := ["loop.example/intervalsandplaces/impl.everyOrder"], fn := fun _ => fun
  | [d, g1] => { results := [.lit (.bool true)], args := [d], vars := [g1] }
  | _ => none }
def fnExactParsePointRow : OpenClaim := { program := "ytlmcgbcfeflneaadoor", sum := "adf764299751e6a00dfd5c6e89ae8be9f1aa7eda03ed294064c0b67beb26fbd4", func := "loop.example/intervalsandplaces/laws.FnExactParsePoint", spec := "fnExactParsePoint", inPlace := ["internal/abi.NoEscape"], named := ["loop.example/intervalsandplaces/impl.everyOrder"], apart := false, laid := [("loop.example/intervalsandplaces/impl.everyOrder", laid_loop_example_intervalsandplaces_impl_everyOrder)] }
def FnExactParsePointSaid : Prop := fnExactParsePointRow.holds Tryd.pinned (OpenSpec.ofChange fnExactParsePointSpec)

/-- ITS FALSE NEIGHBOUR: 'it returns false'. Refute it at one input. -/
def fnExactParsePointWrong : ChangeSpec := { name := "fnExactParsePoint", vars := ["loop.example/intervalsandplaces/impl.everyOrder"], fn := fun _ => fun
  | [d, g1] => { results := [.lit (.bool false)], args := [d], vars := [g1] }
  | _ => none }
def FnExactParsePointWrongFalsely : Prop := fnExactParsePointRow.holds Tryd.pinned (OpenSpec.ofChange fnExactParsePointWrong)

/-- 'laws.FnExactTurnPoint': WHATEVER THE INPUT: true; the input reads as it did. -/
def fnExactTurnPointSpec : ChangeSpec := { name := "fnExactTurnPoint", vars := ["loop.example/intervalsandplaces/impl.everyOrder"], fn := fun _ => fun
  | [d, g1] => { results := [.lit (.bool true)], args := [d], vars := [g1] }
  | _ => none }
def fnExactTurnPointRow : OpenClaim := { program := "ytlmcgbcfeflneaadoor", sum := "adf764299751e6a00dfd5c6e89ae8be9f1aa7eda03ed294064c0b67beb26fbd4", func := "loop.example/intervalsandplaces/laws.FnExactTurnPoint", spec := "fnExactTurnPoint", named := ["loop.example/intervalsandplaces/impl.everyOrder"], apart := false, laid := [("loop.example/intervalsandplaces/impl.everyOrder", laid_loop_example_intervalsandplaces_impl_everyOrder)] }
def FnExactTurnPointSaid : Prop := fnExactTurnPointRow.holds Tryd.pinned (OpenSpec.ofChange fnExactTurnPointSpec)

/-- ITS FALSE NEIGHBOUR: 'it returns false'. Refute it at one input. -/
def fnExactTurnPointWrong : ChangeSpec := { name := "fnExactTurnPoint", vars := ["loop.example/intervalsandplaces/impl.everyOrder"], fn := fun _ => fun
  | [d, g1] => { results := [.lit (.bool false)], args := [d], vars := [g1] }
  | _ => none }
def FnExactTurnPointWrongFalsely : Prop := fnExactTurnPointRow.holds Tryd.pinned (OpenSpec.ofChange fnExactTurnPointWrong)

/-- 'laws.FnExactComposePoint': WHATEVER THE INPUT: true; the input reads as it did. -/
def fnExactComposePointSpec : ChangeSpec := { name := "fnExactComposePoint", vars := ["loop.example/intervalsandplaces/impl.everyOrder"], fn := fun _ => fun
  | [d1, d2, g1] => { results := [.lit (.bool true)], args := [d1, d2], vars := [g1] }
  | _ => none }
def fnExactComposePointRow : OpenClaim := { program := "ytlmcgbcfeflneaadoor", sum := "adf764299751e6a00dfd5c6e89ae8be9f1aa7eda03ed294064c0b67beb26fbd4", func := "loop.example/intervalsandplaces/laws.FnExactComposePoint", spec := "fnExactComposePoint", named := ["loop.example/intervalsandplaces/impl.everyOrder"], apart := false, laid := [("loop.example/intervalsandplaces/impl.everyOrder", laid_loop_example_intervalsandplaces_impl_everyOrder)] }
def FnExactComposePointSaid : Prop := fnExactComposePointRow.holds Tryd.pinned (OpenSpec.ofChange fnExactComposePointSpec)

/-- ITS FALSE NEIGHBOUR: 'it returns false'. Refute it at one input. -/
def fnExactComposePointWrong : ChangeSpec := { name := "fnExactComposePoint", vars := ["loop.example/intervalsandplaces/impl.everyOrder"], fn := fun _ => fun
  | [d1, d2, g1] => { results := [.lit (.bool false)], args := [d1, d2], vars := [g1] }
  | _ => none }
def FnExactComposePointWrongFalsely : Prop := fnExactComposePointRow.holds Tryd.pinned (OpenSpec.ofChange fnExactComposePointWrong)

/- THE SECOND FORM. 'bulk': how many values and letters a reading holds, each counted each time it is reached (what is shared counts as often as it is met; a slice's spare places count too). A statement '..UptoSaid' is the law's where the arguments, and the package variables that the reading takes, are together of bulk at most 1048576: NARROWER than '..Said'. Prove '..Said' where nothing that the law and all that it calls make is longer than what came in: it says more and counts as full. Else prove '..UptoSaid'. A law counts once. -/
mutual
def uptoBulk {H : Type} : DataW H → Nat
  | .lit (.string bytes) => bytes.length + 1
  | .lit _ => 1
  | .nil => 1
  | .ptr d => uptoBulk d + 1
  | .slice elems spare => uptoBulkAll elems + uptoBulkAll spare + 1
  | .agg parts => uptoBulkAll parts + 1
  | .iface _ d => uptoBulk d + 1
  | .map entries => uptoBulkEntries entries + 1
  | .held _ => 1
def uptoBulkAll {H : Type} : List (DataW H) → Nat
  | [] => 0
  | d :: r => uptoBulk d + uptoBulkAll r
def uptoBulkEntries {H : Type} : List (Lit × DataW H) → Nat
  | [] => 0
  | x :: r => uptoBulkEntry x + uptoBulkEntries r
def uptoBulkEntry {H : Type} : Lit × DataW H → Nat
  | (.string bytes, d) => bytes.length + uptoBulk d + 1
  | (_, d) => uptoBulk d + 1
 end
def uptoSmall : (H : Type) → List (DataW H) → Bool := fun _ ds => decide (uptoBulkAll ds ≤ 1048576)
def OpenSpec.upto (s : _root_.Go.ChangeSpec) : _root_.Go.OpenSpec := { _root_.Go.OpenSpec.ofChange s with cond := some uptoSmall }

/-- 'laws.FnOrderOf', WHERE WHAT IT READS IS OF BULK AT MOST 1048576: true; the input reads as it did. -/
def fnOrderOfUptoRow : OpenClaim := { program := "ytlmcgbcfeflneaadoor", sum := "adf764299751e6a00dfd5c6e89ae8be9f1aa7eda03ed294064c0b67beb26fbd4", func := "loop.example/intervalsandplaces/laws.FnOrderOf", spec := "fnOrderOf", named := ["loop.example/intervalsandplaces/impl.everyOrder"], apart := false, laid := [("loop.example/intervalsandplaces/impl.everyOrder", laid_loop_example_intervalsandplaces_impl_everyOrder)], narrowed := true }
def FnOrderOfUptoSaid : Prop := fnOrderOfUptoRow.holds Tryd.pinned (OpenSpec.upto fnOrderOfSpec)

/-- 'laws.FnPointText', WHERE WHAT IT READS IS OF BULK AT MOST 1048576: true; the input reads as it did. -/
def fnPointTextUptoRow : OpenClaim := { program := "ytlmcgbcfeflneaadoor", sum := "adf764299751e6a00dfd5c6e89ae8be9f1aa7eda03ed294064c0b67beb26fbd4", func := "loop.example/intervalsandplaces/laws.FnPointText", spec := "fnPointText", inPlace := ["internal/abi.NoEscape"], named := ["loop.example/intervalsandplaces/impl.everyOrder"], apart := false, laid := [("loop.example/intervalsandplaces/impl.everyOrder", laid_loop_example_intervalsandplaces_impl_everyOrder)], narrowed := true }
def FnPointTextUptoSaid : Prop := fnPointTextUptoRow.holds Tryd.pinned (OpenSpec.upto fnPointTextSpec)

/-- 'laws.FnComposePoint', WHERE WHAT IT READS IS OF BULK AT MOST 1048576: true; the input reads as it did. -/
def fnComposePointUptoRow : OpenClaim := { program := "ytlmcgbcfeflneaadoor", sum := "adf764299751e6a00dfd5c6e89ae8be9f1aa7eda03ed294064c0b67beb26fbd4", func := "loop.example/intervalsandplaces/laws.FnComposePoint", spec := "fnComposePoint", named := ["loop.example/intervalsandplaces/impl.everyOrder"], apart := false, laid := [("loop.example/intervalsandplaces/impl.everyOrder", laid_loop_example_intervalsandplaces_impl_everyOrder)], narrowed := true }
def FnComposePointUptoSaid : Prop := fnComposePointUptoRow.holds Tryd.pinned (OpenSpec.upto fnComposePointSpec)

/-- 'laws.FnTurnPoint', WHERE WHAT IT READS IS OF BULK AT MOST 1048576: true; the input reads as it did. -/
def fnTurnPointUptoRow : OpenClaim := { program := "ytlmcgbcfeflneaadoor", sum := "adf764299751e6a00dfd5c6e89ae8be9f1aa7eda03ed294064c0b67beb26fbd4", func := "loop.example/intervalsandplaces/laws.FnTurnPoint", spec := "fnTurnPoint", named := ["loop.example/intervalsandplaces/impl.everyOrder"], apart := false, laid := [("loop.example/intervalsandplaces/impl.everyOrder", laid_loop_example_intervalsandplaces_impl_everyOrder)], narrowed := true }
def FnTurnPointUptoSaid : Prop := fnTurnPointUptoRow.holds Tryd.pinned (OpenSpec.upto fnTurnPointSpec)

/-- 'laws.FnExactFormatPoint', WHERE WHAT IT READS IS OF BULK AT MOST 1048576: true; the input reads as it did. -/
def fnExactFormatPointUptoRow : OpenClaim := { program := "ytlmcgbcfeflneaadoor", sum := "adf764299751e6a00dfd5c6e89ae8be9f1aa7eda03ed294064c0b67beb26fbd4", func := "loop.example/intervalsandplaces/laws.FnExactFormatPoint", spec := "fnExactFormatPoint", inPlace := ["internal/abi.NoEscape"], named := ["loop.example/intervalsandplaces/impl.everyOrder"], apart := false, laid := [("loop.example/intervalsandplaces/impl.everyOrder", laid_loop_example_intervalsandplaces_impl_everyOrder)], narrowed := true }
def FnExactFormatPointUptoSaid : Prop := fnExactFormatPointUptoRow.holds Tryd.pinned (OpenSpec.upto fnExactFormatPointSpec)

/-- 'laws.FnExactParsePoint', WHERE WHAT IT READS IS OF BULK AT MOST 1048576: true; the input reads as it did. -/
def fnExactParsePointUptoRow : OpenClaim := { program := "ytlmcgbcfeflneaadoor", sum := "adf764299751e6a00dfd5c6e89ae8be9f1aa7eda03ed294064c0b67beb26fbd4", func := "loop.example/intervalsandplaces/laws.FnExactParsePoint", spec := "fnExactParsePoint", inPlace := ["internal/abi.NoEscape"], named := ["loop.example/intervalsandplaces/impl.everyOrder"], apart := false, laid := [("loop.example/intervalsandplaces/impl.everyOrder", laid_loop_example_intervalsandplaces_impl_everyOrder)], narrowed := true }
def FnExactParsePointUptoSaid : Prop := fnExactParsePointUptoRow.holds Tryd.pinned (OpenSpec.upto fnExactParsePointSpec)

/-- 'laws.FnExactTurnPoint', WHERE WHAT IT READS IS OF BULK AT MOST 1048576: true; the input reads as it did. -/
def fnExactTurnPointUptoRow : OpenClaim := { program := "ytlmcgbcfeflneaadoor", sum := "adf764299751e6a00dfd5c6e89ae8be9f1aa7eda03ed294064c0b67beb26fbd4", func := "loop.example/intervalsandplaces/laws.FnExactTurnPoint", spec := "fnExactTurnPoint", named := ["loop.example/intervalsandplaces/impl.everyOrder"], apart := false, laid := [("loop.example/intervalsandplaces/impl.everyOrder", laid_loop_example_intervalsandplaces_impl_everyOrder)], narrowed := true }
def FnExactTurnPointUptoSaid : Prop := fnExactTurnPointUptoRow.holds Tryd.pinned (OpenSpec.upto fnExactTurnPointSpec)

/-- 'laws.FnExactComposePoint', WHERE WHAT IT READS IS OF BULK AT MOST 1048576: true; the input reads as it did. -/
def fnExactComposePointUptoRow : OpenClaim := { program := "ytlmcgbcfeflneaadoor", sum := "adf764299751e6a00dfd5c6e89ae8be9f1aa7eda03ed294064c0b67beb26fbd4", func := "loop.example/intervalsandplaces/laws.FnExactComposePoint", spec := "fnExactComposePoint", named := ["loop.example/intervalsandplaces/impl.everyOrder"], apart := false, laid := [("loop.example/intervalsandplaces/impl.everyOrder", laid_loop_example_intervalsandplaces_impl_everyOrder)], narrowed := true }
def FnExactComposePointUptoSaid : Prop := fnExactComposePointUptoRow.holds Tryd.pinned (OpenSpec.upto fnExactComposePointSpec)

end Rows
end Go.Proofs.YtlmcgbcfeflneaaDoor
