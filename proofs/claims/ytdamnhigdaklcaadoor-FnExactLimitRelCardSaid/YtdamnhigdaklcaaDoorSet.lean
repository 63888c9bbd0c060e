/- Walks over chapter 1's sets of orders, for the program (over its table of the three orders) and for the model. -/
import Derived.Test.YtdamnhigdaklcaaDoorOne
namespace Go.Proofs.YtdamnhigdaklcaaDoor.C
open Go.RowKit
set_option linter.unusedVariables false

theorem oturned_any (o : Int) (w : World) (ho : Ord o) :
    Calls Tryd.prog 131 #[.int .i64 o] w fun e w' => e = .returned (.int .i64 (tp o)) ∧ w = w' := by
  rcases ho with rfl | rfl | rfl
  all_goals
    go_enter Tryd.func131, Tryd.ntmps131
    go_wp2
    go_ret
    exact ⟨ret_int (by decide +kernel), rfl⟩
end Go.Proofs.YtdamnhigdaklcaaDoor.C
