/- Walks over chapter 2's intervals: whether they are valid, their length, what two have in common, their hull, the mirrored one. -/
import Derived.Test.YtholffjadnaloaaDoorOne
import Derived.Deep.RegionWith
namespace Go.Proofs.YtholffjadnaloaaDoor.C
open Go.RowKit
set_option linter.unusedVariables false
set_option linter.unusedSimpArgs false

theorem iIntervalValid_any (f t : Int) (w : World) :
    Calls Tryd.prog 134 #[.agg #[.int .i64 f, .int .i64 t]] w fun e w' => e = .returned (.bool (iv f t)) ∧ Below w.heap.size w w' := by
  cases h1 : tm f <;> cases h2 : tm t <;> by_cases h3 : f < t
  all_goals
    have H1 := hid h1
    have H2 := hid h2
    clear h1 h2
    have HS := AllLt.start w; go_enter Tryd.func134, Tryd.ntmps134
    go_wp2_with (first | (go_at_call 160; (with_reducible refine (isPoint_any f _).mono ?_); rintro e w' ⟨rfl, rfl⟩; rw [H1.out]) | (go_at_call 160; (with_reducible refine (isPoint_any t _).mono ?_); rintro e w' ⟨rfl, rfl⟩; rw [H2.out]))
    go_ret
    exact ⟨ret_bool (by first | rw [iv_t H1.out H2.out (by omega)] | rw [iv_f1 H1.out] | rw [iv_f2 H2.out] | (rw [iv_f3 (by omega)]; simp; omega)), by go_grown⟩
theorem sIntervalValid_any (f t : Int) (w : World) :
    Calls Tryd.prog 130 #[.agg #[.int .i64 f, .int .i64 t]] w fun e w' => e = .returned (.bool (iv f t)) ∧ Below w.heap.size w w' := by
  cases h1 : tm f <;> cases h2 : tm t <;> by_cases h3 : f < t
  all_goals
    have H1 := hid h1
    have H2 := hid h2
    clear h1 h2
    have HS := AllLt.start w; go_enter Tryd.func130, Tryd.ntmps130
    go_wp2_with (first | (go_at_call 159; (with_reducible refine (l1Time_any f _).mono ?_); rintro e w' ⟨rfl, rfl⟩; rw [H1.out]) | (go_at_call 159; (with_reducible refine (l1Time_any t _).mono ?_); rintro e w' ⟨rfl, rfl⟩; rw [H2.out]))
    go_ret
    exact ⟨ret_bool (by first | rw [iv_t H1.out H2.out (by omega)] | rw [iv_f1 H1.out] | rw [iv_f2 H2.out] | (rw [iv_f3 (by omega)]; simp; omega)), by go_grown⟩


/-- A struct of two numbers and a bool, as results. -/
theorem ret_ab {a b a' b' : Int} {x y : Bool} (h0 : a = a') (h1 : b = b') (h2 : x = y) : Ending.returned (.tuple #[.agg #[.int .i64 a, .int .i64 b], .bool x]) = .returned (.tuple #[.agg #[.int .i64 a', .int .i64 b'], .bool y]) := by rw [h0, h1, h2]
theorem toInterval_any (a b : Int) (w : World) :
    Calls Tryd.prog 89 #[.agg #[.int .i64 a, .int .i64 b]] w fun e w' => e = .returned (.agg #[.int .i64 a, .int .i64 b]) ∧ Below w.heap.size w w' := by
  have HS := AllLt.start w; go_enter Tryd.func89, Tryd.ntmps89
  go_wp2
  refine bodyPost_ret (by simp [results, Tryd.results89, go_sem, *]; try rfl) rfl ?_
  exact ⟨rfl, by go_grown⟩
theorem eqInterval_same (a b : Int) (w : World) :
    Calls Tryd.prog 94 #[.agg #[.int .i64 a, .int .i64 b], .agg #[.int .i64 a, .int .i64 b]] w fun e w' => e = .returned (.bool true) ∧ Below w.heap.size w w' := by
  have HS := AllLt.start w; go_enter Tryd.func94, Tryd.ntmps94
  go_wp2
  go_ret
  exact ⟨rfl, by go_grown⟩
end Go.Proofs.YtholffjadnaloaaDoor.C
