/- The mirrored network: the model, the program, the exact law. -/
import Derived.Test.YtnogdjmciekieaaDoorNetM
import Derived.Test.YtnogdjmciekieaaDoorNetO
namespace Go.Proofs.YtnogdjmciekieaaDoor.C
open Go.RowKit
set_option linter.unusedVariables false
set_option linter.unusedSimpArgs false
end Go.Proofs.YtnogdjmciekieaaDoor.C
