/- The model's check of a network, and its relations. -/
import Derived.Test.YtdamnhigdaklcaaNetD
import Derived.Test.YtdamnhigdaklcaaTwo
import Derived.Deep.RegionHeld3
import Derived.Deep.QuietTactic
import Derived.BigQuiet
namespace Go.Proofs.Ytdamnhigdaklcaa.C
open Go.RowKit
set_option linter.unusedVariables false
set_option linter.unusedSimpArgs false
end Go.Proofs.Ytdamnhigdaklcaa.C
