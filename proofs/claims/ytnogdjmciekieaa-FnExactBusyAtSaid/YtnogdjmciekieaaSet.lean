/- Walks over chapter 1's sets of orders, for the program (over its table of the three orders) and for the model. -/
import Derived.Test.YtnogdjmciekieaaTwo
namespace Go.Proofs.Ytnogdjmciekieaa.C
open Go.RowKit
set_option linter.unusedVariables false

end Go.Proofs.Ytnogdjmciekieaa.C
