/- Walks over chapter 1 (points of time): each function computes its plain function, for the program and for the model alike. -/
import Derived.Test.YtnhpjjbblegnaaaDoorBase
import Derived.Test.YtnhpjjbblegnaaaDoorPure
import Derived.WalkLawsBesides
import Derived.WalkSpells
import Derived.IntWalk
import Derived.Handy
namespace Go.Proofs.YtnhpjjbblegnaaaDoor.C
open Go.RowKit
set_option linter.unusedVariables false

theorem l1In_any (a lo hi : Int) (w : World) :
    Calls Tryd.prog 60 #[.int .i64 a, .int .i64 lo, .int .i64 hi] w fun e w' => e = .returned (.bool (btw lo a hi)) ∧ w = w' := by
  by_cases h : lo ≤ a
  · go_enter Tryd.func60, Tryd.ntmps60
    go_wp2
    go_ret
    exact ⟨ret_bool (by simp [btw] <;> omega), rfl⟩
  · go_enter Tryd.func60, Tryd.ntmps60
    go_wp2
    go_ret
    exact ⟨ret_bool (by simp [btw] <;> omega), rfl⟩
theorem sPointValid_any (r : Int) (w : World) :
    Calls Tryd.prog 55 #[.int .i64 r] w fun e w' => e = .returned (.bool (pv r)) ∧ w = w' := by
  go_enter Tryd.func55, Tryd.ntmps55
  go_wp2_with (go_at_call 60; refine (l1In_any _ _ _ _).mono ?_; rintro e w' ⟨rfl, rfl⟩)
  go_ret
  exact ⟨rfl, rfl⟩
theorem iPointValid_any (r : Int) (w : World) :
    Calls Tryd.prog 83 #[.int .i64 r] w fun e w' => e = .returned (.bool (pv r)) ∧ w = w' := by
  by_cases h : 0 ≤ r
  · go_enter Tryd.func83, Tryd.ntmps83
    go_wp2
    go_ret
    exact ⟨ret_bool (by rw [Bool.eq_iff_iff]; simp [pv, btw] <;> omega), rfl⟩
  · go_enter Tryd.func83, Tryd.ntmps83
    go_wp2
    go_ret
    exact ⟨ret_bool (by simp [pv, btw] <;> omega), rfl⟩
theorem l1Order_any (x y : Int) (w : World) :
    Calls Tryd.prog 93 #[.int .i64 x, .int .i64 y] w fun e w' => e = .returned (.int .i64 (ord x y)) ∧ w = w' := by
  rcases Int.lt_trichotomy x y with h | h | h
  · go_enter Tryd.func93, Tryd.ntmps93
    go_wp2
    go_ret
    exact ⟨ret_int (ord_lt h).symm, rfl⟩
  · subst h
    go_enter Tryd.func93, Tryd.ntmps93
    go_wp2
    go_ret
    exact ⟨ret_int (ord_eq rfl).symm, rfl⟩
  · go_enter Tryd.func93, Tryd.ntmps93
    go_wp2
    go_ret
    exact ⟨ret_int (ord_gt h).symm, rfl⟩
theorem compareNumbers_any (x y : Int) (w : World) :
    Calls Tryd.prog 96 #[.int .i64 x, .int .i64 y] w fun e w' => e = .returned (.int .i64 (ord x y)) ∧ w = w' := by
  rcases Int.lt_trichotomy x y with h | h | h
  · go_enter Tryd.func96, Tryd.ntmps96
    go_wp2
    go_ret
    exact ⟨ret_int (ord_lt h).symm, rfl⟩
  · subst h
    go_enter Tryd.func96, Tryd.ntmps96
    go_wp2
    go_ret
    exact ⟨ret_int (ord_eq rfl).symm, rfl⟩
  · go_enter Tryd.func96, Tryd.ntmps96
    go_wp2
    go_ret
    exact ⟨ret_int (ord_gt h).symm, rfl⟩
end Go.Proofs.YtnhpjjbblegnaaaDoor.C
