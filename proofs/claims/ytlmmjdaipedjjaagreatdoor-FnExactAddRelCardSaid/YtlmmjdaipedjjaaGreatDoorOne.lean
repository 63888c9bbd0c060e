/- Walks over chapter 1 (points of time): each function computes its plain function, for the program and for the model alike. -/
import Derived.Test.YtlmmjdaipedjjaaGreatDoorBase
import Derived.Test.YtlmmjdaipedjjaaGreatDoorPure
import Derived.WalkLawsBesides
import Derived.WalkSpells
import Derived.IntWalk
import Derived.Handy
namespace Go.Proofs.YtlmmjdaipedjjaaGreatDoor.C
open Go.RowKit
set_option linter.unusedVariables false

theorem l1In_any (a lo hi : Int) (w : World) :
    Calls Tryz.prog 26 #[.int .i64 a, .int .i64 lo, .int .i64 hi] w fun e w' => e = .returned (.bool (btw lo a hi)) ∧ w = w' := by
  by_cases h : lo ≤ a
  · go_enter Tryz.func26, Tryz.ntmps26
    go_wp2
    go_ret
    exact ⟨ret_bool (by simp [btw] <;> omega), rfl⟩
  · go_enter Tryz.func26, Tryz.ntmps26
    go_wp2
    go_ret
    exact ⟨ret_bool (by simp [btw] <;> omega), rfl⟩
theorem compareNumbers_any (x y : Int) (w : World) :
    Calls Tryz.prog 90 #[.int .i64 x, .int .i64 y] w fun e w' => e = .returned (.int .i64 (ord x y)) ∧ w = w' := by
  rcases Int.lt_trichotomy x y with h | h | h
  · go_enter Tryz.func90, Tryz.ntmps90
    go_wp2
    go_ret
    exact ⟨ret_int (ord_lt h).symm, rfl⟩
  · subst h
    go_enter Tryz.func90, Tryz.ntmps90
    go_wp2
    go_ret
    exact ⟨ret_int (ord_eq rfl).symm, rfl⟩
  · go_enter Tryz.func90, Tryz.ntmps90
    go_wp2
    go_ret
    exact ⟨ret_int (ord_gt h).symm, rfl⟩
end Go.Proofs.YtlmmjdaipedjjaaGreatDoor.C
