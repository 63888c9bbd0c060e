/- Chapter 4: relations of lists, closures, neighbors, steps: the program's walks. -/
import Derived.Test.YtmdgkhebefnfeaaDoorLsg
namespace Go.Proofs.YtmdgkhebefnfeaaDoor.C
open Go.RowKit
set_option linter.unusedVariables false
set_option linter.unusedSimpArgs false
theorem whN_congr {p q : Nat → Bool} (h : ∀ k, k < 13 → p k = q k) : whN p = whN q := set_ext (whN_lt _) (whN_lt _) fun j hj => by rw [whN_test hj, whN_test hj, h j hj]
end Go.Proofs.YtmdgkhebefnfeaaDoor.C
