/- The basic relation of two intervals. -/
import Derived.Test.YtmdgkhebefnfeaaDoorTab
import Derived.Deep.RegionHeld3
namespace Go.Proofs.YtmdgkhebefnfeaaDoor.C
open Go.RowKit
set_option linter.unusedVariables false
set_option linter.unusedSimpArgs false
end Go.Proofs.YtmdgkhebefnfeaaDoor.C
