/- Composition, by the ends of a third interval: the program's walks. Composition: orders that are in both sets of each place. Composition: what the ends in between leave. Composition of basic relations and of relations: the program's walks. Composition in the model's words, by its table; the exact laws of composed basic relations and relations. -/
import Derived.Test.YtnogdjmciekieabDoorRelU
import Derived.Test.YtnogdjmciekieabDoorCmpM
import Derived.StillTailTactics
import Derived.Test.YtnogdjmciekieabDoorTbl
namespace Go.Proofs.YtnogdjmciekieabDoor.C
section
section
open Go.RowKit
set_option linter.unusedVariables false
set_option linter.unusedSimpArgs false
theorem lt5 (n : Nat) : n < n + 1 + 1 + 1 + 1 + 1 := by omega
theorem lt6 (n : Nat) : n < n + 1 + 1 + 1 + 1 + 1 + 1 := by omega
theorem lt7 (n : Nat) : n < n + 1 + 1 + 1 + 1 + 1 + 1 + 1 := by omega
theorem ne1 (n : Nat) : ¬ n + 1 = n := by omega
theorem ne1' (n : Nat) : ¬ n = n + 1 := by omega
theorem ne2 (n : Nat) : ¬ n + 1 + 1 = n := by omega
theorem ne2' (n : Nat) : ¬ n = n + 1 + 1 := by omega
theorem ne3 (n : Nat) : ¬ n + 1 + 1 + 1 = n := by omega
theorem ne3' (n : Nat) : ¬ n = n + 1 + 1 + 1 := by omega
theorem ne4 (n : Nat) : ¬ n + 1 + 1 + 1 + 1 = n := by omega
theorem ne4' (n : Nat) : ¬ n = n + 1 + 1 + 1 + 1 := by omega
end
section
open Go.RowKit
set_option linter.unusedVariables false
set_option linter.unusedSimpArgs false
end
section
open Go.RowKit
set_option linter.unusedVariables false
set_option linter.unusedSimpArgs false
end
section
open Go.RowKit
set_option linter.unusedVariables false
set_option linter.unusedSimpArgs false
end
end
section
open Go.RowKit
set_option linter.unusedVariables false
set_option linter.unusedSimpArgs false
end
end Go.Proofs.YtnogdjmciekieabDoor.C
