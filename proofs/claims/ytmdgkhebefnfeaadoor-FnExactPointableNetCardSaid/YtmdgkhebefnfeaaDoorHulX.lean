/- Chapter 4: the exact laws of convex hulls, convex and nearly convex relations, and dimensions. -/
import Derived.Test.YtmdgkhebefnfeaaDoorHul
import Derived.Test.YtmdgkhebefnfeaaDoorHulS
import Derived.Test.YtmdgkhebefnfeaaDoorLsh
namespace Go.Proofs.YtmdgkhebefnfeaaDoor.C
open Go.RowKit
set_option linter.unusedVariables false
set_option linter.unusedSimpArgs false
end Go.Proofs.YtmdgkhebefnfeaaDoor.C
