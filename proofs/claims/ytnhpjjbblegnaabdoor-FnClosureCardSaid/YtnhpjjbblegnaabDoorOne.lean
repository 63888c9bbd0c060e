/- Walks over chapter 1 (points of time): each function computes its plain function, for the program and for the model alike. -/
import Derived.Test.YtnhpjjbblegnaabDoorBase
import Derived.Test.YtnhpjjbblegnaabDoorPure
import Derived.WalkLawsBesides
import Derived.WalkSpells
import Derived.IntWalk
import Derived.Handy
namespace Go.Proofs.YtnhpjjbblegnaabDoor.C
open Go.RowKit
set_option linter.unusedVariables false

theorem l1In_any (a lo hi : Int) (w : World) :
    Calls Tryd.prog 117 #[.int .i64 a, .int .i64 lo, .int .i64 hi] w fun e w' => e = .returned (.bool (btw lo a hi)) ∧ w = w' := by
  by_cases h : lo ≤ a
  · go_enter Tryd.func117, Tryd.ntmps117
    go_wp2
    go_ret
    exact ⟨ret_bool (by simp [btw] <;> omega), rfl⟩
  · go_enter Tryd.func117, Tryd.ntmps117
    go_wp2
    go_ret
    exact ⟨ret_bool (by simp [btw] <;> omega), rfl⟩
theorem sPointValid_any (r : Int) (w : World) :
    Calls Tryd.prog 110 #[.int .i64 r] w fun e w' => e = .returned (.bool (pv r)) ∧ w = w' := by
  go_enter Tryd.func110, Tryd.ntmps110
  go_wp2_with (go_at_call 117; refine (l1In_any _ _ _ _).mono ?_; rintro e w' ⟨rfl, rfl⟩)
  go_ret
  exact ⟨rfl, rfl⟩
theorem iPointValid_any (r : Int) (w : World) :
    Calls Tryd.prog 106 #[.int .i64 r] w fun e w' => e = .returned (.bool (pv r)) ∧ w = w' := by
  by_cases h : 0 ≤ r
  · go_enter Tryd.func106, Tryd.ntmps106
    go_wp2
    go_ret
    exact ⟨ret_bool (by rw [Bool.eq_iff_iff]; simp [pv, btw] <;> omega), rfl⟩
  · go_enter Tryd.func106, Tryd.ntmps106
    go_wp2
    go_ret
    exact ⟨ret_bool (by simp [pv, btw] <;> omega), rfl⟩
theorem l1Order_any (x y : Int) (w : World) :
    Calls Tryd.prog 170 #[.int .i64 x, .int .i64 y] w fun e w' => e = .returned (.int .i64 (ord x y)) ∧ w = w' := by
  rcases Int.lt_trichotomy x y with h | h | h
  · go_enter Tryd.func170, Tryd.ntmps170
    go_wp2
    go_ret
    exact ⟨ret_int (ord_lt h).symm, rfl⟩
  · subst h
    go_enter Tryd.func170, Tryd.ntmps170
    go_wp2
    go_ret
    exact ⟨ret_int (ord_eq rfl).symm, rfl⟩
  · go_enter Tryd.func170, Tryd.ntmps170
    go_wp2
    go_ret
    exact ⟨ret_int (ord_gt h).symm, rfl⟩
theorem compareNumbers_any (x y : Int) (w : World) :
    Calls Tryd.prog 155 #[.int .i64 x, .int .i64 y] w fun e w' => e = .returned (.int .i64 (ord x y)) ∧ w = w' := by
  rcases Int.lt_trichotomy x y with h | h | h
  · go_enter Tryd.func155, Tryd.ntmps155
    go_wp2
    go_ret
    exact ⟨ret_int (ord_lt h).symm, rfl⟩
  · subst h
    go_enter Tryd.func155, Tryd.ntmps155
    go_wp2
    go_ret
    exact ⟨ret_int (ord_eq rfl).symm, rfl⟩
  · go_enter Tryd.func155, Tryd.ntmps155
    go_wp2
    go_ret
    exact ⟨ret_int (ord_gt h).symm, rfl⟩
theorem isPoint_any (x : Int) (w : World) :
    Calls Tryd.prog 96 #[.int .i64 x] w fun e w' => e = .returned (.bool (tm x)) ∧ w = w' := by
  by_cases h : -1000000 ≤ x
  · go_enter Tryd.func96, Tryd.ntmps96
    go_wp2
    go_ret
    exact ⟨ret_bool (by simp [tm, btw] <;> omega), rfl⟩
  · go_enter Tryd.func96, Tryd.ntmps96
    go_wp2
    go_ret
    exact ⟨ret_bool (by simp [tm, btw] <;> omega), rfl⟩
theorem iOrderOf_any (x y : Int) (w : World) :
    Calls Tryd.prog 112 #[.int .i64 x, .int .i64 y] w fun e w' => e = .returned (.int .i64 (oof x y)) ∧ w = w' := by
  cases hx : tm x <;> cases hy : tm y
  all_goals
    have HX := hid hx
    have HY := hid hy
    go_enter Tryd.func112, Tryd.ntmps112
    go_wp2_with (first | (go_at_call 96; refine (isPoint_any _ _).mono ?_; rintro e w' ⟨rfl, rfl⟩) | (go_at_call 155; refine (compareNumbers_any _ _ _).mono ?_; rintro e w' ⟨rfl, rfl⟩))
    go_ret
    exact ⟨ret_int (by simp [oof, HX.out, HY.out]), rfl⟩
theorem has_any (r o : Int) (w : World) :
    Calls Tryd.prog 111 #[.int .i64 r, .int .i64 o] w fun e w' => e = .returned (.bool (bits .and .i64 r o != 0)) ∧ w = w' := by
  go_enter Tryd.func111, Tryd.ntmps111
  go_wp2
  go_ret
  exact ⟨rfl, rfl⟩
theorem iPointHolds_any (r x y : Int) (w : World) :
    Calls Tryd.prog 53 #[.int .i64 r, .int .i64 x, .int .i64 y] w fun e w' => e = .returned (.bool (ph r x y)) ∧ w = w' := by
  cases h : pv r
  all_goals
    have H := hid h
    clear h
    go_enter Tryd.func53, Tryd.ntmps53
    go_wp2_with (first | (go_at_call 106; refine (iPointValid_any _ _).mono ?_; rintro e w' ⟨rfl, rfl⟩; rw [H.out]) | (go_at_call 112; refine (iOrderOf_any _ _ _).mono ?_; rintro e w' ⟨rfl, rfl⟩) | (go_at_call 111; refine (has_any _ _ _).mono ?_; rintro e w' ⟨rfl, rfl⟩))
    go_ret
    exact ⟨ret_bool (by first | rw [ph_off H.out] | rw [ph_on H.out]), rfl⟩
end Go.Proofs.YtnhpjjbblegnaabDoor.C
