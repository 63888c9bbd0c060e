/- Walks over turned and mirrored basic relations. -/
import Derived.Test.YthldegohihkkiaaEnd
import Derived.Test.YthldegohihkkiaaTabS
namespace Go.Proofs.Ythldegohihkkiaa.C
open Go.RowKit
set_option linter.unusedVariables false
set_option linter.unusedSimpArgs false
end Go.Proofs.Ythldegohihkkiaa.C
