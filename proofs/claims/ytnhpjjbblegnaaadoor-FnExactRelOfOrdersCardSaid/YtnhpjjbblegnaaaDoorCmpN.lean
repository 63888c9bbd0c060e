/- Composition: what the ends in between leave. -/
import Derived.Test.YtnhpjjbblegnaaaDoorCmp
namespace Go.Proofs.YtnhpjjbblegnaaaDoor.C
open Go.RowKit
set_option linter.unusedVariables false
set_option linter.unusedSimpArgs false
end Go.Proofs.YtnhpjjbblegnaaaDoor.C
