/- The mirrored network: the model, the program, the exact law. -/
import Derived.Test.YtlmmjdaipedjjaaDoorNetM
import Derived.Test.YtlmmjdaipedjjaaDoorNetO
namespace Go.Proofs.YtlmmjdaipedjjaaDoor.C
open Go.RowKit
set_option linter.unusedVariables false
set_option linter.unusedSimpArgs false
end Go.Proofs.YtlmmjdaipedjjaaDoor.C
