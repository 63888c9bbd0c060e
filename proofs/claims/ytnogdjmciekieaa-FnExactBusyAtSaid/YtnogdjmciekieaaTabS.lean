/- The model's words over chapter 2's letters. -/
import Derived.Test.YtnogdjmciekieaaTwo
import Derived.Deep.QuietTactic
import Derived.BigQuiet
namespace Go.Proofs.Ytnogdjmciekieaa.C
open Go.RowKit
set_option linter.unusedVariables false
set_option linter.unusedSimpArgs false
theorem ret_ii {k : IntKind} {a b a' b' : Int} (h0 : a = a') (h1 : b = b') : Ending.returned (.tuple #[.int k a, .int k b]) = .returned (.tuple #[.int k a', .int k b']) := by rw [h0, h1]
end Go.Proofs.Ytnogdjmciekieaa.C
