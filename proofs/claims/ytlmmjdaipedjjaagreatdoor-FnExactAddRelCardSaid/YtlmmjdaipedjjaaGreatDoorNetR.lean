/- The mirrored network: the model, the program, the exact law. -/
import Derived.Test.YtlmmjdaipedjjaaGreatDoorNetM
import Derived.Test.YtlmmjdaipedjjaaGreatDoorNetO
namespace Go.Proofs.YtlmmjdaipedjjaaGreatDoor.C
open Go.RowKit
set_option linter.unusedVariables false
set_option linter.unusedSimpArgs false
end Go.Proofs.YtlmmjdaipedjjaaGreatDoor.C
