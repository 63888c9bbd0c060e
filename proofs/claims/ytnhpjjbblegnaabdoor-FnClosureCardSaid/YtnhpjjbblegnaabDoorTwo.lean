/- Walks over chapter 2's intervals: whether they are valid, their length, what two have in common, their hull, the mirrored one. -/
import Derived.Test.YtnhpjjbblegnaabDoorOne
import Derived.Deep.RegionWith
namespace Go.Proofs.YtnhpjjbblegnaabDoor.C
open Go.RowKit
set_option linter.unusedVariables false
set_option linter.unusedSimpArgs false

theorem iIntervalValid_any (f t : Int) (w : World) :
    Calls Tryd.prog 37 #[.agg #[.int .i64 f, .int .i64 t]] w fun e w' => e = .returned (.bool (iv f t)) ∧ Below w.heap.size w w' := by
  cases h1 : tm f <;> cases h2 : tm t <;> by_cases h3 : f < t
  all_goals
    have H1 := hid h1
    have H2 := hid h2
    clear h1 h2
    have HS := AllLt.start w; go_enter Tryd.func37, Tryd.ntmps37
    go_wp2_with (first | (go_at_call 96; (with_reducible refine (isPoint_any f _).mono ?_); rintro e w' ⟨rfl, rfl⟩; rw [H1.out]) | (go_at_call 96; (with_reducible refine (isPoint_any t _).mono ?_); rintro e w' ⟨rfl, rfl⟩; rw [H2.out]))
    go_ret
    exact ⟨ret_bool (by first | rw [iv_t H1.out H2.out (by omega)] | rw [iv_f1 H1.out] | rw [iv_f2 H2.out] | (rw [iv_f3 (by omega)]; simp; omega)), by go_grown⟩

theorem iLengthOf_any (f t : Int) (w : World) :
    Calls Tryd.prog 38 #[.agg #[.int .i64 f, .int .i64 t]] w fun e w' => e = .returned (.int .i64 (ilen f t)) ∧ Below w.heap.size w w' := by
  cases h : iv f t
  all_goals
    have H := hid h
    have q := iv_iff f t
    rw [h] at q
    simp only [true_iff, false_iff, reduceCtorEq] at q
    clear h
    have HS := AllLt.start w; go_enter Tryd.func38, Tryd.ntmps38
    go_wp2_with (first | (go_at_call 37; (with_reducible refine (iIntervalValid_any f t _).mono ?_); rintro e w' ⟨rfl, hb⟩; obtain ⟨HB, hz0, hz, hc, hf⟩ := bst (w0 := w) (by go_grown) hb; clear hb; (try simp at hz); (first | ((refine HS.g5 (m := w'.heap.size) ?_ ?_); (focus omega); intro HS) | ((refine HS.g4 (m := w'.heap.size) ?_ ?_); (focus omega); intro HS) | ((refine HS.g3 (m := w'.heap.size) ?_ ?_); (focus omega); intro HS) | ((refine HS.g2 (m := w'.heap.size) ?_ ?_); (focus omega); intro HS) | ((refine HS.g1 (m := w'.heap.size) ?_ ?_); (focus omega); intro HS) | ((refine HS.g0 (m := w'.heap.size) ?_ ?_); (focus omega); intro HS)); have HU := HS; simp only [AllLt] at HU; rw [H.out]))
    go_ret
    exact ⟨ret_int (by first | rw [ilen_on H.out] | rw [ilen_off H.out]), by go_grown⟩

/-- A struct of two numbers and a bool, as results. -/
theorem ret_ab {a b a' b' : Int} {x y : Bool} (h0 : a = a') (h1 : b = b') (h2 : x = y) : Ending.returned (.tuple #[.agg #[.int .i64 a, .int .i64 b], .bool x]) = .returned (.tuple #[.agg #[.int .i64 a', .int .i64 b'], .bool y]) := by rw [h0, h1, h2]
set_option maxHeartbeats 1000000 in
theorem iMeetOf_any (a b c d : Int) (w : World) :
    Calls Tryd.prog 58 #[.agg #[.int .i64 a, .int .i64 b], .agg #[.int .i64 c, .int .i64 d]] w fun e w' => e = .returned (.tuple #[.agg #[.int .i64 (mtF a b c d), .int .i64 (mtT a b c d)], .bool (mtB a b c d)]) ∧ Below w.heap.size w w' := by
  have HS := AllLt.start w; go_enter Tryd.func58, Tryd.ntmps58
  go_wp2_with (first | (go_at_call 37; (with_reducible refine (iIntervalValid_any _ _ _).mono ?_); rintro e w' ⟨rfl, hb⟩; obtain ⟨HB, hz0, hz, hc, hf⟩ := bst (w0 := w) (by go_grown) hb; clear hb; (try simp at hz); (first | ((refine HS.g5 (m := w'.heap.size) ?_ ?_); (focus omega); intro HS) | ((refine HS.g4 (m := w'.heap.size) ?_ ?_); (focus omega); intro HS) | ((refine HS.g3 (m := w'.heap.size) ?_ ?_); (focus omega); intro HS) | ((refine HS.g2 (m := w'.heap.size) ?_ ?_); (focus omega); intro HS) | ((refine HS.g1 (m := w'.heap.size) ?_ ?_); (focus omega); intro HS) | ((refine HS.g0 (m := w'.heap.size) ?_ ?_); (focus omega); intro HS)); have HU := HS; simp only [AllLt] at HU))
  all_goals
    refine bodyPost_ret (by simp [results, Tryd.results58, go_sem, *]; try rfl) rfl ?_
    simp only [Bool.not_eq_eq_eq_not, Bool.not_true, Bool.not_false, iv_iff, iv_off_iff] at *
    refine ⟨?_, by go_grown⟩
    have hP := mt_on (a := a) (b := b) (c := c) (d := d)
    have hN := mt_off (a := a) (b := b) (c := c) (d := d)
    unfold mtP at hP hN
    by_cases hM : ((-1000000 ≤ a ∧ a < b ∧ b ≤ 1000000) ∧ -1000000 ≤ c ∧ c < d ∧ d ≤ 1000000) ∧ max a c < min b d
    · obtain ⟨e1, e2, e3⟩ := hP hM
      first | (refine ret_ab ?_ ?_ e1.symm <;> omega) | (exfalso; omega)
    · obtain ⟨e1, e2, e3⟩ := hN hM
      first | (refine ret_ab ?_ ?_ e1.symm <;> omega) | (exfalso; omega)
end Go.Proofs.YtnhpjjbblegnaabDoor.C
