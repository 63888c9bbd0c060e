/- Walks over chapter 3's relations: whether a number is one, its basic relations, turned and mirrored ones, all others. -/
import Derived.Test.YtdamnhigdaklcaaTurn
import Derived.Test.YtdamnhigdaklcaaRelP
namespace Go.Proofs.Ytdamnhigdaklcaa.C
open Go.RowKit
set_option linter.unusedVariables false
set_option linter.unusedSimpArgs false
end Go.Proofs.Ytdamnhigdaklcaa.C
