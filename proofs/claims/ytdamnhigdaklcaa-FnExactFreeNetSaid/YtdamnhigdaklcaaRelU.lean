/- The exact laws of one relation: how many basic ones, all others, turned and mirrored. -/
import Derived.Test.YtdamnhigdaklcaaRel
namespace Go.Proofs.Ytdamnhigdaklcaa.C
open Go.RowKit
set_option linter.unusedVariables false
set_option linter.unusedSimpArgs false
/-- two functions of numbers below 8192 that agree -/
theorem by_all {f g : Nat → Int} (h : all8192 (fun n => decide (f n = g n)) = true) (n : Nat) (hn : n < 8192) : f n = g n := of_decide_eq_true (all8192_of h n hn)
end Go.Proofs.Ytdamnhigdaklcaa.C
