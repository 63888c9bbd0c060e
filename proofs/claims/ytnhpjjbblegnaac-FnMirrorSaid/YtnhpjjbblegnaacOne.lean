/- Walks over chapter 1 (points of time): each function computes its plain function, for the program and for the model alike. -/
import Derived.Test.YtnhpjjbblegnaacBase
import Derived.Test.YtnhpjjbblegnaacPure
import Derived.WalkLawsBesides
import Derived.WalkSpells
import Derived.IntWalk
import Derived.Handy
namespace Go.Proofs.Ytnhpjjbblegnaac.C
open Go.RowKit
set_option linter.unusedVariables false

theorem l1In_any (a lo hi : Int) (w : World) :
    Calls Try.prog 53 #[.int .i64 a, .int .i64 lo, .int .i64 hi] w fun e w' => e = .returned (.bool (btw lo a hi)) ∧ w = w' := by
  by_cases h : lo ≤ a
  · go_enter Try.func53, Try.ntmps53
    go_wp2
    go_ret
    exact ⟨ret_bool (by simp [btw] <;> omega), rfl⟩
  · go_enter Try.func53, Try.ntmps53
    go_wp2
    go_ret
    exact ⟨ret_bool (by simp [btw] <;> omega), rfl⟩
theorem l1Time_any (x : Int) (w : World) :
    Calls Try.prog 41 #[.int .i64 x] w fun e w' => e = .returned (.bool (tm x)) ∧ w = w' := by
  go_enter Try.func41, Try.ntmps41
  go_wp2_with (go_at_call 53; refine (l1In_any _ _ _ _).mono ?_; rintro e w' ⟨rfl, rfl⟩)
  go_ret
  exact ⟨rfl, rfl⟩
theorem isPoint_any (x : Int) (w : World) :
    Calls Try.prog 33 #[.int .i64 x] w fun e w' => e = .returned (.bool (tm x)) ∧ w = w' := by
  by_cases h : -1000000 ≤ x
  · go_enter Try.func33, Try.ntmps33
    go_wp2
    go_ret
    exact ⟨ret_bool (by simp [tm, btw] <;> omega), rfl⟩
  · go_enter Try.func33, Try.ntmps33
    go_wp2
    go_ret
    exact ⟨ret_bool (by simp [tm, btw] <;> omega), rfl⟩
end Go.Proofs.Ytnhpjjbblegnaac.C
