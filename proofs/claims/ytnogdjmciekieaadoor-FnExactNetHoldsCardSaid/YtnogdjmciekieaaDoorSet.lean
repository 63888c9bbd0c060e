/- Walks over chapter 1's sets of orders, for the program (over its table of the three orders) and for the model. -/
import Derived.Test.YtnogdjmciekieaaDoorTwo
namespace Go.Proofs.YtnogdjmciekieaaDoor.C
open Go.RowKit
set_option linter.unusedVariables false

theorem ordersOf_one (b off : Nat) (v : Int) (w : World) (hc : w.cell? ⟨b, off, none⟩ = some (.int .i64 v)) (hv : Ord v) :
    Calls Tryd.prog 128 #[.slice (some ⟨b, off, none⟩) 1 1] w fun e w' => e = .returned (.int .i64 v) ∧ w = w' := by
  rcases hv with rfl | rfl | rfl
  all_goals
    go_enter Tryd.func128, Tryd.ntmps128
    go_wp2
    go_rounds 2
    go_ret
    exact ⟨ret_int (by decide +kernel), rfl⟩
theorem ordersOf_new (b : Nat) (v : Int) (t : TypeId) (w : World) (hb : b = w.heap.size) (hv : Ord v) :
    Calls Tryd.prog 128 #[.slice (some ⟨b, 0, none⟩) 1 1] (w.alloc (.cells #[.int .i64 v] t)) fun e w' => e = .returned (.int .i64 v) ∧ w.alloc (.cells #[.int .i64 v] t) = w' := by
  subst hb
  exact ordersOf_one _ _ _ _ (new_cell _ _ _) hv
theorem ordersOf_all (b off : Nat) (w : World) (h0 : w.cell? ⟨b, off, none⟩ = some (.int .i64 1)) (h1 : w.cell? ⟨b, off + 1, none⟩ = some (.int .i64 2)) (h2 : w.cell? ⟨b, off + 2, none⟩ = some (.int .i64 4)) :
    Calls Tryd.prog 128 #[.slice (some ⟨b, off, none⟩) 3 3] w fun e w' => e = .returned (.int .i64 7) ∧ w = w' := by
  go_enter Tryd.func128, Tryd.ntmps128
  go_wp2
  go_rounds 4
  go_ret
  exact ⟨ret_int (by decide +kernel), rfl⟩
theorem ordersOf_none (w : World) :
    Calls Tryd.prog 128 #[.slice none 0 0] w fun e w' => e = .returned (.int .i64 0) ∧ w = w' := by
  go_enter Tryd.func128, Tryd.ntmps128
  go_wp2
  go_rounds 1
  go_ret
  exact ⟨ret_int (by decide +kernel), rfl⟩
theorem oturned_any (o : Int) (w : World) (ho : Ord o) :
    Calls Tryd.prog 131 #[.int .i64 o] w fun e w' => e = .returned (.int .i64 (tp o)) ∧ w = w' := by
  rcases ho with rfl | rfl | rfl
  all_goals
    go_enter Tryd.func131, Tryd.ntmps131
    go_wp2
    go_ret
    exact ⟨ret_int (by decide +kernel), rfl⟩
theorem othen_any (o p : Int) (w : World) (ho : Ord o) (hp : Ord p) :
    Calls Tryd.prog 116 #[.int .i64 o, .int .i64 p] w fun e w' => e = .returned (.int .i64 (othen o p)) ∧ Below w.heap.size w w' := by
  rcases ho with rfl | rfl | rfl <;> rcases hp with rfl | rfl | rfl
  all_goals
    go_enter Tryd.func116, Tryd.ntmps116
    go_wp2_with (first | (go_at_call 128; (with_reducible refine (ordersOf_new _ _ _ _ (by simp) (by unfold Ord; decide +kernel)).mono ?_); rintro e w' ⟨rfl, rfl⟩) | (go_at_call 128; (with_reducible refine (ordersOf_all _ _ _ (by simp [go_sem]) (by simp [go_sem]) (by simp [go_sem])).mono ?_); rintro e w' ⟨rfl, rfl⟩))
    go_ret
    exact ⟨ret_int (by decide +kernel), by go_grown⟩
end Go.Proofs.YtnogdjmciekieaaDoor.C
