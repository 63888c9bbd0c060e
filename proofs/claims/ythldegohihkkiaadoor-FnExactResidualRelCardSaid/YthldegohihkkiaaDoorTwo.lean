/- Walks over chapter 2's intervals: whether they are valid, their length, what two have in common, their hull, the mirrored one. -/
import Derived.Test.YthldegohihkkiaaDoorOne
import Derived.Deep.RegionWith
namespace Go.Proofs.YthldegohihkkiaaDoor.C
open Go.RowKit
set_option linter.unusedVariables false
set_option linter.unusedSimpArgs false

theorem iIntervalValid_any (f t : Int) (w : World) :
    Calls Tryd.prog 65 #[.agg #[.int .i64 f, .int .i64 t]] w fun e w' => e = .returned (.bool (iv f t)) ∧ Below w.heap.size w w' := by
  cases h1 : tm f <;> cases h2 : tm t <;> by_cases h3 : f < t
  all_goals
    have H1 := hid h1
    have H2 := hid h2
    clear h1 h2
    have HS := AllLt.start w; go_enter Tryd.func65, Tryd.ntmps65
    go_wp2_with (first | (go_at_call 78; (with_reducible refine (isPoint_any f _).mono ?_); rintro e w' ⟨rfl, rfl⟩; rw [H1.out]) | (go_at_call 78; (with_reducible refine (isPoint_any t _).mono ?_); rintro e w' ⟨rfl, rfl⟩; rw [H2.out]))
    go_ret
    exact ⟨ret_bool (by first | rw [iv_t H1.out H2.out (by omega)] | rw [iv_f1 H1.out] | rw [iv_f2 H2.out] | (rw [iv_f3 (by omega)]; simp; omega)), by go_grown⟩
theorem sIntervalValid_any (f t : Int) (w : World) :
    Calls Tryd.prog 60 #[.agg #[.int .i64 f, .int .i64 t]] w fun e w' => e = .returned (.bool (iv f t)) ∧ Below w.heap.size w w' := by
  cases h1 : tm f <;> cases h2 : tm t <;> by_cases h3 : f < t
  all_goals
    have H1 := hid h1
    have H2 := hid h2
    clear h1 h2
    have HS := AllLt.start w; go_enter Tryd.func60, Tryd.ntmps60
    go_wp2_with (first | (go_at_call 77; (with_reducible refine (l1Time_any f _).mono ?_); rintro e w' ⟨rfl, rfl⟩; rw [H1.out]) | (go_at_call 77; (with_reducible refine (l1Time_any t _).mono ?_); rintro e w' ⟨rfl, rfl⟩; rw [H2.out]))
    go_ret
    exact ⟨ret_bool (by first | rw [iv_t H1.out H2.out (by omega)] | rw [iv_f1 H1.out] | rw [iv_f2 H2.out] | (rw [iv_f3 (by omega)]; simp; omega)), by go_grown⟩


theorem l2Both_any (a b c d : Int) (w : World) :
    Calls Tryd.prog 38 #[.agg #[.int .i64 a, .int .i64 b], .agg #[.int .i64 c, .int .i64 d]] w fun e w' => e = .returned (.bool (bo a b c d)) ∧ Below w.heap.size w w' := by
  cases h1 : iv a b
  all_goals
    have H1 := hid h1
    clear h1
    have HS := AllLt.start w; go_enter Tryd.func38, Tryd.ntmps38
    go_wp2_with (first | (go_at_call 60; (with_reducible refine (sIntervalValid_any a b _).mono ?_); rintro e w' ⟨rfl, hb⟩; obtain ⟨HB, hz0, hz, hc, hf⟩ := bst (w0 := w) (by go_grown) hb; clear hb; (try simp at hz); (first | ((refine HS.g5 (m := w'.heap.size) ?_ ?_); (focus omega); intro HS) | ((refine HS.g4 (m := w'.heap.size) ?_ ?_); (focus omega); intro HS) | ((refine HS.g3 (m := w'.heap.size) ?_ ?_); (focus omega); intro HS) | ((refine HS.g2 (m := w'.heap.size) ?_ ?_); (focus omega); intro HS) | ((refine HS.g1 (m := w'.heap.size) ?_ ?_); (focus omega); intro HS) | ((refine HS.g0 (m := w'.heap.size) ?_ ?_); (focus omega); intro HS)); have HU := HS; simp only [AllLt] at HU; rw [H1.out]) | (go_at_call 60; (with_reducible refine (sIntervalValid_any c d _).mono ?_); rintro e w' ⟨rfl, hb⟩; obtain ⟨HB, hz0, hz, hc, hf⟩ := bst (w0 := w) (by go_grown) hb; clear hb; (try simp at hz); (first | ((refine HS.g5 (m := w'.heap.size) ?_ ?_); (focus omega); intro HS) | ((refine HS.g4 (m := w'.heap.size) ?_ ?_); (focus omega); intro HS) | ((refine HS.g3 (m := w'.heap.size) ?_ ?_); (focus omega); intro HS) | ((refine HS.g2 (m := w'.heap.size) ?_ ?_); (focus omega); intro HS) | ((refine HS.g1 (m := w'.heap.size) ?_ ?_); (focus omega); intro HS) | ((refine HS.g0 (m := w'.heap.size) ?_ ?_); (focus omega); intro HS)); have HU := HS; simp only [AllLt] at HU))
    go_ret
    exact ⟨ret_bool (by simp [bo, H1.out]), by go_grown⟩
/-- A struct of two numbers and a bool, as results. -/
theorem ret_ab {a b a' b' : Int} {x y : Bool} (h0 : a = a') (h1 : b = b') (h2 : x = y) : Ending.returned (.tuple #[.agg #[.int .i64 a, .int .i64 b], .bool x]) = .returned (.tuple #[.agg #[.int .i64 a', .int .i64 b'], .bool y]) := by rw [h0, h1, h2]
theorem toInterval_any (a b : Int) (w : World) :
    Calls Tryd.prog 17 #[.agg #[.int .i64 a, .int .i64 b]] w fun e w' => e = .returned (.agg #[.int .i64 a, .int .i64 b]) ∧ Below w.heap.size w w' := by
  have HS := AllLt.start w; go_enter Tryd.func17, Tryd.ntmps17
  go_wp2
  refine bodyPost_ret (by simp [results, Tryd.results17, go_sem, *]; try rfl) rfl ?_
  exact ⟨rfl, by go_grown⟩
end Go.Proofs.YthldegohihkkiaaDoor.C
