/- Walks over turned and mirrored basic relations. -/
import Derived.Test.YtdamnhigdaklcaaEnd
import Derived.Test.YtdamnhigdaklcaaTabS
namespace Go.Proofs.Ytdamnhigdaklcaa.C
open Go.RowKit
set_option linter.unusedVariables false
set_option linter.unusedSimpArgs false
end Go.Proofs.Ytdamnhigdaklcaa.C
