/- Walks over chapter 1's sets of orders, for the program (over its table of the three orders) and for the model. Walks over the orders of the ends of two intervals in a basic relation, turned and mirrored ones. Walks over turned and mirrored basic relations. -/
import Derived.Test.YtnogdjmciekieaaTwo
import Derived.Test.YtnogdjmciekieaaTab
import Derived.Deep.RegionWith
import Derived.Deep.RegionHeld3
import Derived.DeepKeys
namespace Go.Proofs.Ytnogdjmciekieaa.C
section
open Go.RowKit
set_option linter.unusedVariables false

end
section
open Go.RowKit
set_option linter.unusedVariables false
set_option linter.unusedSimpArgs false
end
section
open Go.RowKit
set_option linter.unusedVariables false
set_option linter.unusedSimpArgs false
end
end Go.Proofs.Ytnogdjmciekieaa.C
