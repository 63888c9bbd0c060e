/- Walks over the orders of the ends of two intervals in a basic relation, turned and mirrored ones. -/
import Derived.Test.YtnogdjmciekieaaTab
import Derived.Test.YtnogdjmciekieaaSet
import Derived.Deep.RegionWith
import Derived.Deep.RegionHeld3
import Derived.DeepKeys
namespace Go.Proofs.Ytnogdjmciekieaa.C
open Go.RowKit
set_option linter.unusedVariables false
set_option linter.unusedSimpArgs false
end Go.Proofs.Ytnogdjmciekieaa.C
