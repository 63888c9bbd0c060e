/- Walks over turned and mirrored basic relations. -/
import Derived.Test.YtnhpjjbblegnaaaDoorEnd
import Derived.Test.YtnhpjjbblegnaaaDoorTabS
namespace Go.Proofs.YtnhpjjbblegnaaaDoor.C
open Go.RowKit
set_option linter.unusedVariables false
set_option linter.unusedSimpArgs false
end Go.Proofs.YtnhpjjbblegnaaaDoor.C
