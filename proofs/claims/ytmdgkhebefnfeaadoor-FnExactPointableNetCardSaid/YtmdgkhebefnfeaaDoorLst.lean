/- Chapter 4: zones and basic relations that are near or next; lists of basic relations. -/
import Derived.Test.YtmdgkhebefnfeaaDoorLatM
import Derived.Test.YtmdgkhebefnfeaaDoorRelU
import Derived.OwnWalk
import Derived.Deep.AppendLies
import Derived.Laws.AppendOwn
import Derived.Lib.SliceRun
namespace Go.Proofs.YtmdgkhebefnfeaaDoor.C
open Go.RowKit
set_option linter.unusedVariables false
set_option linter.unusedSimpArgs false
end Go.Proofs.YtmdgkhebefnfeaaDoor.C
