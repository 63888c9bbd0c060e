/- Empty, atomic and nearly convex networks: the program, the model, the exact laws. -/
import Derived.Test.YtlmmjdaipedjjaaGreatDoorCloA
import Derived.Test.YtlmmjdaipedjjaaGreatDoorNetX
import Derived.Test.YtlmmjdaipedjjaaGreatDoorNetO
namespace Go.Proofs.YtlmmjdaipedjjaaGreatDoor.C
open Go.RowKit
set_option linter.unusedVariables false
set_option linter.unusedSimpArgs false
end Go.Proofs.YtlmmjdaipedjjaaGreatDoor.C
