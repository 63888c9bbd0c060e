/- Walks over chapter 2's intervals: whether they are valid, their length, what two have in common, their hull, the mirrored one. -/
import Derived.Test.YtnhpjjbblegnaacOne
import Derived.Deep.RegionWith
namespace Go.Proofs.Ytnhpjjbblegnaac.C
open Go.RowKit
set_option linter.unusedVariables false
set_option linter.unusedSimpArgs false

theorem iIntervalValid_any (f t : Int) (w : World) :
    Calls Try.prog 20 #[.agg #[.int .i64 f, .int .i64 t]] w fun e w' => e = .returned (.bool (iv f t)) ∧ Below w.heap.size w w' := by
  cases h1 : tm f <;> cases h2 : tm t <;> by_cases h3 : f < t
  all_goals
    have H1 := hid h1
    have H2 := hid h2
    clear h1 h2
    have HS := AllLt.start w; go_enter Try.func20, Try.ntmps20
    go_wp2_with (first | (go_at_call 33; (with_reducible refine (isPoint_any f _).mono ?_); rintro e w' ⟨rfl, rfl⟩; rw [H1.out]) | (go_at_call 33; (with_reducible refine (isPoint_any t _).mono ?_); rintro e w' ⟨rfl, rfl⟩; rw [H2.out]))
    go_ret
    exact ⟨ret_bool (by first | rw [iv_t H1.out H2.out (by omega)] | rw [iv_f1 H1.out] | rw [iv_f2 H2.out] | (rw [iv_f3 (by omega)]; simp; omega)), by go_grown⟩
theorem sIntervalValid_any (f t : Int) (w : World) :
    Calls Try.prog 32 #[.agg #[.int .i64 f, .int .i64 t]] w fun e w' => e = .returned (.bool (iv f t)) ∧ Below w.heap.size w w' := by
  cases h1 : tm f <;> cases h2 : tm t <;> by_cases h3 : f < t
  all_goals
    have H1 := hid h1
    have H2 := hid h2
    clear h1 h2
    have HS := AllLt.start w; go_enter Try.func32, Try.ntmps32
    go_wp2_with (first | (go_at_call 41; (with_reducible refine (l1Time_any f _).mono ?_); rintro e w' ⟨rfl, rfl⟩; rw [H1.out]) | (go_at_call 41; (with_reducible refine (l1Time_any t _).mono ?_); rintro e w' ⟨rfl, rfl⟩; rw [H2.out]))
    go_ret
    exact ⟨ret_bool (by first | rw [iv_t H1.out H2.out (by omega)] | rw [iv_f1 H1.out] | rw [iv_f2 H2.out] | (rw [iv_f3 (by omega)]; simp; omega)), by go_grown⟩

theorem iLengthOf_any (f t : Int) (w : World) :
    Calls Try.prog 21 #[.agg #[.int .i64 f, .int .i64 t]] w fun e w' => e = .returned (.int .i64 (ilen f t)) ∧ Below w.heap.size w w' := by
  cases h : iv f t
  all_goals
    have H := hid h
    have q := iv_iff f t
    rw [h] at q
    simp only [true_iff, false_iff, reduceCtorEq] at q
    clear h
    have HS := AllLt.start w; go_enter Try.func21, Try.ntmps21
    go_wp2_with (first | (go_at_call 20; (with_reducible refine (iIntervalValid_any f t _).mono ?_); rintro e w' ⟨rfl, hb⟩; obtain ⟨HB, hz0, hz, hc, hf⟩ := bst (w0 := w) (by go_grown) hb; clear hb; (try simp at hz); (first | ((refine HS.g5 (m := w'.heap.size) ?_ ?_); (focus omega); intro HS) | ((refine HS.g4 (m := w'.heap.size) ?_ ?_); (focus omega); intro HS) | ((refine HS.g3 (m := w'.heap.size) ?_ ?_); (focus omega); intro HS) | ((refine HS.g2 (m := w'.heap.size) ?_ ?_); (focus omega); intro HS) | ((refine HS.g1 (m := w'.heap.size) ?_ ?_); (focus omega); intro HS) | ((refine HS.g0 (m := w'.heap.size) ?_ ?_); (focus omega); intro HS)); have HU := HS; simp only [AllLt] at HU; rw [H.out]))
    go_ret
    exact ⟨ret_int (by first | rw [ilen_on H.out] | rw [ilen_off H.out]), by go_grown⟩
theorem sLengthOf_any (f t : Int) (w : World) :
    Calls Try.prog 22 #[.agg #[.int .i64 f, .int .i64 t]] w fun e w' => e = .returned (.int .i64 (ilen f t)) ∧ Below w.heap.size w w' := by
  cases h : iv f t
  all_goals
    have H := hid h
    have q := iv_iff f t
    rw [h] at q
    simp only [true_iff, false_iff, reduceCtorEq] at q
    clear h
    have HS := AllLt.start w; go_enter Try.func22, Try.ntmps22
    go_wp2_with (first | (go_at_call 32; (with_reducible refine (sIntervalValid_any f t _).mono ?_); rintro e w' ⟨rfl, hb⟩; obtain ⟨HB, hz0, hz, hc, hf⟩ := bst (w0 := w) (by go_grown) hb; clear hb; (try simp at hz); (first | ((refine HS.g5 (m := w'.heap.size) ?_ ?_); (focus omega); intro HS) | ((refine HS.g4 (m := w'.heap.size) ?_ ?_); (focus omega); intro HS) | ((refine HS.g3 (m := w'.heap.size) ?_ ?_); (focus omega); intro HS) | ((refine HS.g2 (m := w'.heap.size) ?_ ?_); (focus omega); intro HS) | ((refine HS.g1 (m := w'.heap.size) ?_ ?_); (focus omega); intro HS) | ((refine HS.g0 (m := w'.heap.size) ?_ ?_); (focus omega); intro HS)); have HU := HS; simp only [AllLt] at HU; rw [H.out]))
    go_ret
    exact ⟨ret_int (by first | rw [ilen_on H.out] | rw [ilen_off H.out]), by go_grown⟩

/-- A struct of two numbers and a bool, as results. -/
theorem ret_ab {a b a' b' : Int} {x y : Bool} (h0 : a = a') (h1 : b = b') (h2 : x = y) : Ending.returned (.tuple #[.agg #[.int .i64 a, .int .i64 b], .bool x]) = .returned (.tuple #[.agg #[.int .i64 a', .int .i64 b'], .bool y]) := by rw [h0, h1, h2]
theorem iMirrorInterval_any (a b : Int) (w : World) :
    Calls Try.prog 18 #[.agg #[.int .i64 a, .int .i64 b]] w fun e w' => e = .returned (.tuple #[.agg #[.int .i64 (miF a b), .int .i64 (miT a b)], .bool (iv a b)]) ∧ Below w.heap.size w w' := by
  cases h1 : iv a b
  all_goals
    have q := iv_iff a b
    rw [h1] at q
    simp only [true_iff, false_iff, reduceCtorEq] at q
    have H1 := hid h1
    clear h1
    have HS := AllLt.start w; go_enter Try.func18, Try.ntmps18
    go_wp2_with (first | (go_at_call 20; (with_reducible refine (iIntervalValid_any a b _).mono ?_); rintro e w' ⟨rfl, hb⟩; obtain ⟨HB, hz0, hz, hc, hf⟩ := bst (w0 := w) (by go_grown) hb; clear hb; (try simp at hz); (first | ((refine HS.g5 (m := w'.heap.size) ?_ ?_); (focus omega); intro HS) | ((refine HS.g4 (m := w'.heap.size) ?_ ?_); (focus omega); intro HS) | ((refine HS.g3 (m := w'.heap.size) ?_ ?_); (focus omega); intro HS) | ((refine HS.g2 (m := w'.heap.size) ?_ ?_); (focus omega); intro HS) | ((refine HS.g1 (m := w'.heap.size) ?_ ?_); (focus omega); intro HS) | ((refine HS.g0 (m := w'.heap.size) ?_ ?_); (focus omega); intro HS)); have HU := HS; simp only [AllLt] at HU; rw [H1.out]))
    refine bodyPost_ret (by simp [results, Try.results18, go_sem, *]; try rfl) rfl ?_
    refine ⟨?_, by go_grown⟩
    have hb0 := H1.out
    refine ret_ab ?_ ?_ ?_
    · simp [miF, hb0]
    · simp [miT, hb0]
    · simp [hb0]
theorem sMirrorInterval_any (a b : Int) (w : World) :
    Calls Try.prog 19 #[.agg #[.int .i64 a, .int .i64 b]] w fun e w' => e = .returned (.tuple #[.agg #[.int .i64 (miF a b), .int .i64 (miT a b)], .bool (iv a b)]) ∧ Below w.heap.size w w' := by
  cases h1 : iv a b
  all_goals
    have q := iv_iff a b
    rw [h1] at q
    simp only [true_iff, false_iff, reduceCtorEq] at q
    have H1 := hid h1
    clear h1
    have HS := AllLt.start w; go_enter Try.func19, Try.ntmps19
    go_wp2_with (first | (go_at_call 32; (with_reducible refine (sIntervalValid_any a b _).mono ?_); rintro e w' ⟨rfl, hb⟩; obtain ⟨HB, hz0, hz, hc, hf⟩ := bst (w0 := w) (by go_grown) hb; clear hb; (try simp at hz); (first | ((refine HS.g5 (m := w'.heap.size) ?_ ?_); (focus omega); intro HS) | ((refine HS.g4 (m := w'.heap.size) ?_ ?_); (focus omega); intro HS) | ((refine HS.g3 (m := w'.heap.size) ?_ ?_); (focus omega); intro HS) | ((refine HS.g2 (m := w'.heap.size) ?_ ?_); (focus omega); intro HS) | ((refine HS.g1 (m := w'.heap.size) ?_ ?_); (focus omega); intro HS) | ((refine HS.g0 (m := w'.heap.size) ?_ ?_); (focus omega); intro HS)); have HU := HS; simp only [AllLt] at HU; rw [H1.out]))
    refine bodyPost_ret (by simp [results, Try.results19, go_sem, *]; try rfl) rfl ?_
    refine ⟨?_, by go_grown⟩
    have hb0 := H1.out
    refine ret_ab ?_ ?_ ?_
    · simp [miF, hb0]
    · simp [miT, hb0]
    · simp [hb0]
end Go.Proofs.Ytnhpjjbblegnaac.C
