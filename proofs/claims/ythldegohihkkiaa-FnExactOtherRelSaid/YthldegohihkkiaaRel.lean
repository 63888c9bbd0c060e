/- Walks over chapter 3's relations: whether a number is one, its basic relations, turned and mirrored ones, all others. -/
import Derived.Test.YthldegohihkkiaaTurn
import Derived.Test.YthldegohihkkiaaRelP
namespace Go.Proofs.Ythldegohihkkiaa.C
open Go.RowKit
set_option linter.unusedVariables false
set_option linter.unusedSimpArgs false
theorem iRelValid_any (r : Int) (w : World) :
    Calls Try.prog 7 #[.int .i64 r] w fun e w' => e = .returned (.bool (rv r)) ∧ w = w' := by
  by_cases h : 0 ≤ r
  all_goals
    have HS := AllLt.start w; go_enter Try.func7, Try.ntmps7
    go_wp2
    go_ret
    exact ⟨ret_bool (by rw [Bool.eq_iff_iff]; simp [rv, btw] <;> omega), rfl⟩
theorem sRelValid_any (r : Int) (w : World) :
    Calls Try.prog 6 #[.int .i64 r] w fun e w' => e = .returned (.bool (rv r)) ∧ w = w' := by
  have HS := AllLt.start w; go_enter Try.func6, Try.ntmps6
  go_wp2_with (first | (go_at_call 12; (with_reducible refine (l1In_any _ _ _ _).mono ?_); rintro e w' ⟨rfl, rfl⟩))
  go_ret
  exact ⟨rfl, rfl⟩
theorem walk_FnExactRelValid (a0 : Int) (w : World) (w0 : (Lit.int .i64 a0).wf = true) :
    Calls Try.prog 3 #[.int .i64 a0] w fun e w' => e = .returned (.bool true) ∧ Below w.heap.size w w' := by
  clear w0
  have HS := AllLt.start w; go_enter Try.func3, Try.ntmps3
  go_wp2_with (first | (go_at_call 6; (with_reducible refine (sRelValid_any _ _).mono ?_); rintro e w' ⟨rfl, rfl⟩) | (go_at_call 7; (with_reducible refine (iRelValid_any _ _).mono ?_); rintro e w' ⟨rfl, rfl⟩))
  go_ret
  exact ⟨rfl, Below.refl _ _⟩
end Go.Proofs.Ythldegohihkkiaa.C
