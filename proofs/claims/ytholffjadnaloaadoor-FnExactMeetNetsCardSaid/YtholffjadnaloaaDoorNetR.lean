/- The mirrored network: the model, the program, the exact law. -/
import Derived.Test.YtholffjadnaloaaDoorNetM
import Derived.Test.YtholffjadnaloaaDoorNetO
namespace Go.Proofs.YtholffjadnaloaaDoor.C
open Go.RowKit
set_option linter.unusedVariables false
set_option linter.unusedSimpArgs false
end Go.Proofs.YtholffjadnaloaaDoor.C
