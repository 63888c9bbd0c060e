/- Two networks: whether one lies within the other in the model, and the exact laws. -/
import Derived.Test.YtnogdjmciekieaaDoorNtm
import Derived.Test.YtnogdjmciekieaaDoorMee
import Derived.Test.YtnogdjmciekieaaDoorNetY
namespace Go.Proofs.YtnogdjmciekieaaDoor.C
open Go.RowKit
set_option linter.unusedVariables false
set_option linter.unusedSimpArgs false
theorem szNet_at (z : Int) (s : ByteArray) (left : Int) (h0 : (s.size : Int) ≤ left) (h1 : left ≤ 1048576) (w : World) :
    Calls Tryd.prog 13 #[.agg #[.int .i64 z, .string s], .int .i64 left] w fun e w' => e = .returned (.int .i64 (left - s.size)) ∧ Below w.heap.size w w' := by
  have h2 : ¬ (left - (s.size : Int) < 0) := by omega
  have h3 : decide (left - (s.size : Int) < 0) = false := by simp; omega
  have h4 : IntKind.i64.wrap (left - (s.size : Int)) = left - (s.size : Int) := IntWalk.i64_in _ (by omega)
  have HS := AllLt.start w; go_enter Tryd.func13, Tryd.ntmps13
  go_wp2
  go_ret
  exact ⟨rfl, by (repeat' (first | (with_reducible exact Below.refl _ _) | (with_reducible refine Below.setCell ?_ ?_ _) | (with_reducible refine below_drewN' ?_ _) | (with_reducible refine below_drew' ?_) | (with_reducible refine Below.alloc ?_ ?_ _) | (with_reducible assumption) | go_size))⟩
theorem szNet_out (z : Int) (s : ByteArray) (left : Int) (h0 : ¬ (s.size : Int) ≤ left) (hm : s.size ≤ maxLen) (hl : 0 ≤ left) (h1 : left ≤ 1048576) (w : World) :
    Calls Tryd.prog 13 #[.agg #[.int .i64 z, .string s], .int .i64 left] w fun e w' => e = .returned (.int .i64 (-1)) ∧ Below w.heap.size w w' := by
  unfold maxLen at hm
  have h2 : left - (s.size : Int) < 0 := by omega
  have h3 : decide (left - (s.size : Int) < 0) = true := by simp; omega
  have h4 : IntKind.i64.wrap (left - (s.size : Int)) = left - (s.size : Int) := IntWalk.i64_in _ (by omega)
  have HS := AllLt.start w; go_enter Tryd.func13, Tryd.ntmps13
  go_wp2
  go_ret
  exact ⟨rfl, by (repeat' (first | (with_reducible exact Below.refl _ _) | (with_reducible refine Below.setCell ?_ ?_ _) | (with_reducible refine below_drewN' ?_ _) | (with_reducible refine below_drew' ?_) | (with_reducible refine Below.alloc ?_ ?_ _) | (with_reducible assumption) | go_size))⟩
end Go.Proofs.YtnogdjmciekieaaDoor.C
