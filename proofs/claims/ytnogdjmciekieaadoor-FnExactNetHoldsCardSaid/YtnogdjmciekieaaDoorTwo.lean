/- Walks over chapter 1 (points of time): each function computes its plain function, for the program and for the model alike. Walks over chapter 2's intervals: whether they are valid, their length, what two have in common, their hull, the mirrored one. -/
import Derived.Test.YtnogdjmciekieaaDoorBase
import Derived.Test.YtnogdjmciekieaaDoorPure
import Derived.WalkLawsBesides
import Derived.WalkSpells
import Derived.Deep.QuietTactic
import Derived.IntWalk
import Derived.Handy
import Derived.Deep.RegionWith
namespace Go.Proofs.YtnogdjmciekieaaDoor.C
open Go.RowKit in
theorem below_drewN (B : Nat) (w : World) (n : Nat) : Below B w (w.drewN n) := ⟨rfl, rfl, rfl, Nat.le_refl _, fun _ _ => rfl⟩
open Go.RowKit in
theorem below_drewN' {B : Nat} {w w' : World} (h : Below B w w') (n : Nat) : Below B w (w'.drewN n) := h.trans (below_drewN B w' n)
open Go.RowKit in
theorem below_drew' {B : Nat} {w w' : World} (h : Below B w w') : Below B w w'.drew := h.trans (below_drewN B w' 1)
section
open Go.RowKit
set_option linter.unusedVariables false

theorem l1In_any (a lo hi : Int) (w : World) :
    Calls Tryd.prog 43 #[.int .i64 a, .int .i64 lo, .int .i64 hi] w fun e w' => e = .returned (.bool (btw lo a hi)) ∧ w = w' := by
  by_cases h : lo ≤ a
  · go_enter Tryd.func43, Tryd.ntmps43
    go_wp2
    go_ret
    exact ⟨ret_bool (by simp [btw] <;> omega), rfl⟩
  · go_enter Tryd.func43, Tryd.ntmps43
    go_wp2
    go_ret
    exact ⟨ret_bool (by simp [btw] <;> omega), rfl⟩
theorem compareNumbers_any (x y : Int) (w : World) :
    Calls Tryd.prog 127 #[.int .i64 x, .int .i64 y] w fun e w' => e = .returned (.int .i64 (ord x y)) ∧ w = w' := by
  rcases Int.lt_trichotomy x y with h | h | h
  · go_enter Tryd.func127, Tryd.ntmps127
    go_wp2
    go_ret
    exact ⟨ret_int (ord_lt h).symm, rfl⟩
  · subst h
    go_enter Tryd.func127, Tryd.ntmps127
    go_wp2
    go_ret
    exact ⟨ret_int (ord_eq rfl).symm, rfl⟩
  · go_enter Tryd.func127, Tryd.ntmps127
    go_wp2
    go_ret
    exact ⟨ret_int (ord_gt h).symm, rfl⟩
theorem l1Time_any (x : Int) (w : World) :
    Calls Tryd.prog 87 #[.int .i64 x] w fun e w' => e = .returned (.bool (tm x)) ∧ w = w' := by
  go_enter Tryd.func87, Tryd.ntmps87
  go_wp2_with (go_at_call 43; refine (l1In_any _ _ _ _).mono ?_; rintro e w' ⟨rfl, rfl⟩)
  go_ret
  exact ⟨rfl, rfl⟩
theorem isPoint_any (x : Int) (w : World) :
    Calls Tryd.prog 88 #[.int .i64 x] w fun e w' => e = .returned (.bool (tm x)) ∧ w = w' := by
  by_cases h : -1000000 ≤ x
  · go_enter Tryd.func88, Tryd.ntmps88
    go_wp2
    go_ret
    exact ⟨ret_bool (by simp [tm, btw] <;> omega), rfl⟩
  · go_enter Tryd.func88, Tryd.ntmps88
    go_wp2
    go_ret
    exact ⟨ret_bool (by simp [tm, btw] <;> omega), rfl⟩
end
section
open Go.RowKit
set_option linter.unusedVariables false
set_option linter.unusedSimpArgs false

theorem iIntervalValid_any (f t : Int) (w : World) :
    Calls Tryd.prog 62 #[.agg #[.int .i64 f, .int .i64 t]] w fun e w' => e = .returned (.bool (iv f t)) ∧ Below w.heap.size w w' := by
  cases h1 : tm f <;> cases h2 : tm t <;> by_cases h3 : f < t
  all_goals
    have H1 := hid h1
    have H2 := hid h2
    clear h1 h2
    have HS := AllLt.start w; go_enter Tryd.func62, Tryd.ntmps62
    go_wp2_with (first | (go_at_call 88; (with_reducible refine (isPoint_any f _).mono ?_); rintro e w' ⟨rfl, rfl⟩; rw [H1.out]) | (go_at_call 88; (with_reducible refine (isPoint_any t _).mono ?_); rintro e w' ⟨rfl, rfl⟩; rw [H2.out]))
    go_ret
    exact ⟨ret_bool (by first | rw [iv_t H1.out H2.out (by omega)] | rw [iv_f1 H1.out] | rw [iv_f2 H2.out] | (rw [iv_f3 (by omega)]; simp; omega)), by go_grown⟩
theorem sIntervalValid_any (f t : Int) (w : World) :
    Calls Tryd.prog 57 #[.agg #[.int .i64 f, .int .i64 t]] w fun e w' => e = .returned (.bool (iv f t)) ∧ Below w.heap.size w w' := by
  cases h1 : tm f <;> cases h2 : tm t <;> by_cases h3 : f < t
  all_goals
    have H1 := hid h1
    have H2 := hid h2
    clear h1 h2
    have HS := AllLt.start w; go_enter Tryd.func57, Tryd.ntmps57
    go_wp2_with (first | (go_at_call 87; (with_reducible refine (l1Time_any f _).mono ?_); rintro e w' ⟨rfl, rfl⟩; rw [H1.out]) | (go_at_call 87; (with_reducible refine (l1Time_any t _).mono ?_); rintro e w' ⟨rfl, rfl⟩; rw [H2.out]))
    go_ret
    exact ⟨ret_bool (by first | rw [iv_t H1.out H2.out (by omega)] | rw [iv_f1 H1.out] | rw [iv_f2 H2.out] | (rw [iv_f3 (by omega)]; simp; omega)), by go_grown⟩


/-- A struct of two numbers and a bool, as results. -/
theorem ret_ab {a b a' b' : Int} {x y : Bool} (h0 : a = a') (h1 : b = b') (h2 : x = y) : Ending.returned (.tuple #[.agg #[.int .i64 a, .int .i64 b], .bool x]) = .returned (.tuple #[.agg #[.int .i64 a', .int .i64 b'], .bool y]) := by rw [h0, h1, h2]
theorem toInterval_any (a b : Int) (w : World) :
    Calls Tryd.prog 29 #[.agg #[.int .i64 a, .int .i64 b]] w fun e w' => e = .returned (.agg #[.int .i64 a, .int .i64 b]) ∧ Below w.heap.size w w' := by
  have HS := AllLt.start w; go_enter Tryd.func29, Tryd.ntmps29
  go_wp2
  refine bodyPost_ret (by simp [results, Tryd.results29, go_sem, *]; try rfl) rfl ?_
  exact ⟨rfl, by go_grown⟩
theorem eqInterval_same (a b : Int) (w : World) :
    Calls Tryd.prog 38 #[.agg #[.int .i64 a, .int .i64 b], .agg #[.int .i64 a, .int .i64 b]] w fun e w' => e = .returned (.bool true) ∧ Below w.heap.size w w' := by
  have HS := AllLt.start w; go_enter Tryd.func38, Tryd.ntmps38
  go_wp2
  go_ret
  exact ⟨rfl, by go_grown⟩
end
end Go.Proofs.YtnogdjmciekieaaDoor.C
