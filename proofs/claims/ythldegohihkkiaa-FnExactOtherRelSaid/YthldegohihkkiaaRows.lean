/-
  No cell of these rows narrows 'for every input' (looked for: loops, veiled, ifaces, maps, wideKeys, modest, calm, conditions, laid).
  DERIVED. THE GIVEN ROWS OF THIS SEAT. 3 by the template 'for every input the law returns true; each argument reads behind the call as it read before'; 0 by the template 'total and deterministic' (their statements: YthldegohihkkiaaTotals.lean).
  GIVEN WITH THE SEED: the statements are not yours to turn. If you find one false, say at which input.
  Laid BY PROGRAM, IN A SANDBOX (cutbox-rows.mjs): the forced cells as the released guide's own fill.sh prints them over the translation 3faa06826e65840e… (all of the seat's roots in one cut). By AI agents, Wed Nov 11 2026. No macro, syntax, notation, axiom, sorry.
-/
import Derived.Test.YthldegohihkkiaaChecked
import GoSem.Claim
import GoSem.ClaimJoined
import GoSem.ClaimMapViews
import Derived.JoinedTies
import Derived.KernelRfl
namespace Go.Proofs.Ythldegohihkkiaa
/- THE CELL 'sum', in the pinned program and in every row, IS THE sha256 OF THE DUMP (.gsa) THAT YthldegohihkkiaaProg.lean LOADS. Nothing in Lean hashes anything: it is a label: what it is worth is what the hold of that sum in a sandbox is worth. -/
noncomputable def Try.pinned : Pinned := { name := "ythldegohihkkiaa", sum := "3faa06826e65840e39dd907cd9bfcb52163b466e0e737e68ff9edc684e4f18be", checked := Try.checked }
namespace Rows
def none {H : Type} : Left H := { results := [], args := [] }

/-- 'laws.FnExactRelValid': WHATEVER THE INPUT: true; the input reads as it did. -/
def fnExactRelValidSpec : ChangeSpec := { name := "fnExactRelValid", fn := fun _ => fun
  | [d] => { results := [.lit (.bool true)], args := [d] }
  | _ => none }
def fnExactRelValidRow : OpenClaim := { program := "ythldegohihkkiaa", sum := "3faa06826e65840e39dd907cd9bfcb52163b466e0e737e68ff9edc684e4f18be", func := "loop.example/intervalsandplaces/laws.FnExactRelValid", spec := "fnExactRelValid", apart := false }
def FnExactRelValidSaid : Prop := fnExactRelValidRow.holds Try.pinned (OpenSpec.ofChange fnExactRelValidSpec)

/-- ITS FALSE NEIGHBOUR: 'it returns false'. Refute it at one input. -/
def fnExactRelValidWrong : ChangeSpec := { name := "fnExactRelValid", fn := fun _ => fun
  | [d] => { results := [.lit (.bool false)], args := [d] }
  | _ => none }
def FnExactRelValidWrongFalsely : Prop := fnExactRelValidRow.holds Try.pinned (OpenSpec.ofChange fnExactRelValidWrong)

/-- 'laws.FnExactCountBasics': WHATEVER THE INPUT: true; the input reads as it did. -/
def fnExactCountBasicsSpec : ChangeSpec := { name := "fnExactCountBasics", fn := fun _ => fun
  | [d] => { results := [.lit (.bool true)], args := [d] }
  | _ => none }
def fnExactCountBasicsRow : OpenClaim := { program := "ythldegohihkkiaa", sum := "3faa06826e65840e39dd907cd9bfcb52163b466e0e737e68ff9edc684e4f18be", func := "loop.example/intervalsandplaces/laws.FnExactCountBasics", spec := "fnExactCountBasics", apart := false }
def FnExactCountBasicsSaid : Prop := fnExactCountBasicsRow.holds Try.pinned (OpenSpec.ofChange fnExactCountBasicsSpec)

/-- ITS FALSE NEIGHBOUR: 'it returns false'. Refute it at one input. -/
def fnExactCountBasicsWrong : ChangeSpec := { name := "fnExactCountBasics", fn := fun _ => fun
  | [d] => { results := [.lit (.bool false)], args := [d] }
  | _ => none }
def FnExactCountBasicsWrongFalsely : Prop := fnExactCountBasicsRow.holds Try.pinned (OpenSpec.ofChange fnExactCountBasicsWrong)

/-- 'laws.FnExactOtherRel': WHATEVER THE INPUT: true; the input reads as it did. -/
def fnExactOtherRelSpec : ChangeSpec := { name := "fnExactOtherRel", fn := fun _ => fun
  | [d] => { results := [.lit (.bool true)], args := [d] }
  | _ => none }
def fnExactOtherRelRow : OpenClaim := { program := "ythldegohihkkiaa", sum := "3faa06826e65840e39dd907cd9bfcb52163b466e0e737e68ff9edc684e4f18be", func := "loop.example/intervalsandplaces/laws.FnExactOtherRel", spec := "fnExactOtherRel", apart := false }
def FnExactOtherRelSaid : Prop := fnExactOtherRelRow.holds Try.pinned (OpenSpec.ofChange fnExactOtherRelSpec)

/-- ITS FALSE NEIGHBOUR: 'it returns false'. Refute it at one input. -/
def fnExactOtherRelWrong : ChangeSpec := { name := "fnExactOtherRel", fn := fun _ => fun
  | [d] => { results := [.lit (.bool false)], args := [d] }
  | _ => none }
def FnExactOtherRelWrongFalsely : Prop := fnExactOtherRelRow.holds Try.pinned (OpenSpec.ofChange fnExactOtherRelWrong)

/- THE SECOND FORM. 'bulk': how many values and letters a reading holds, each counted each time it is reached (what is shared counts as often as it is met; a slice's spare places count too). A statement '..UptoSaid' is the law's where the arguments, and the package variables that the reading takes, are together of bulk at most 1048576: NARROWER than '..Said'. Prove '..Said' where nothing that the law and all that it calls make is longer than what came in: it says more and counts as full. Else prove '..UptoSaid'. A law counts once. -/
mutual
def uptoBulk {H : Type} : DataW H → Nat
  | .lit (.string bytes) => bytes.length + 1
  | .lit _ => 1
  | .nil => 1
  | .ptr d => uptoBulk d + 1
  | .slice elems spare => uptoBulkAll elems + uptoBulkAll spare + 1
  | .agg parts => uptoBulkAll parts + 1
  | .iface _ d => uptoBulk d + 1
  | .map entries => uptoBulkEntries entries + 1
  | .held _ => 1
def uptoBulkAll {H : Type} : List (DataW H) → Nat
  | [] => 0
  | d :: r => uptoBulk d + uptoBulkAll r
def uptoBulkEntries {H : Type} : List (Lit × DataW H) → Nat
  | [] => 0
  | x :: r => uptoBulkEntry x + uptoBulkEntries r
def uptoBulkEntry {H : Type} : Lit × DataW H → Nat
  | (.string bytes, d) => bytes.length + uptoBulk d + 1
  | (_, d) => uptoBulk d + 1
 end
def uptoSmall : (H : Type) → List (DataW H) → Bool := fun _ ds => decide (uptoBulkAll ds ≤ 1048576)
def OpenSpec.upto (s : _root_.Go.ChangeSpec) : _root_.Go.OpenSpec := { _root_.Go.OpenSpec.ofChange s with cond := some uptoSmall }

/-- 'laws.FnExactRelValid', WHERE WHAT IT READS IS OF BULK AT MOST 1048576: true; the input reads as it did. -/
def fnExactRelValidUptoRow : OpenClaim := { program := "ythldegohihkkiaa", sum := "3faa06826e65840e39dd907cd9bfcb52163b466e0e737e68ff9edc684e4f18be", func := "loop.example/intervalsandplaces/laws.FnExactRelValid", spec := "fnExactRelValid", apart := false, narrowed := true }
def FnExactRelValidUptoSaid : Prop := fnExactRelValidUptoRow.holds Try.pinned (OpenSpec.upto fnExactRelValidSpec)

/-- 'laws.FnExactCountBasics', WHERE WHAT IT READS IS OF BULK AT MOST 1048576: true; the input reads as it did. -/
def fnExactCountBasicsUptoRow : OpenClaim := { program := "ythldegohihkkiaa", sum := "3faa06826e65840e39dd907cd9bfcb52163b466e0e737e68ff9edc684e4f18be", func := "loop.example/intervalsandplaces/laws.FnExactCountBasics", spec := "fnExactCountBasics", apart := false, narrowed := true }
def FnExactCountBasicsUptoSaid : Prop := fnExactCountBasicsUptoRow.holds Try.pinned (OpenSpec.upto fnExactCountBasicsSpec)

/-- 'laws.FnExactOtherRel', WHERE WHAT IT READS IS OF BULK AT MOST 1048576: true; the input reads as it did. -/
def fnExactOtherRelUptoRow : OpenClaim := { program := "ythldegohihkkiaa", sum := "3faa06826e65840e39dd907cd9bfcb52163b466e0e737e68ff9edc684e4f18be", func := "loop.example/intervalsandplaces/laws.FnExactOtherRel", spec := "fnExactOtherRel", apart := false, narrowed := true }
def FnExactOtherRelUptoSaid : Prop := fnExactOtherRelUptoRow.holds Try.pinned (OpenSpec.upto fnExactOtherRelSpec)

end Rows
end Go.Proofs.Ythldegohihkkiaa
