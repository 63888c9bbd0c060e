/- The exact laws of chapter 2's intervals. -/
import Derived.Test.YtnbjbkbfdpdbfabTwo
namespace Go.Proofs.Ytnbjbkbfdpdbfab.C
open Go.RowKit
set_option linter.unusedVariables false
set_option linter.unusedSimpArgs false

set_option maxHeartbeats 1000000 in
theorem walk_FnExactLengthOf (a0 a1 : Int) (w : World) (w0 : (Lit.int .i64 a0).wf = true) (w1 : (Lit.int .i64 a1).wf = true) :
    Calls Try.prog 3 #[.agg #[.int .i64 a0, .int .i64 a1]] w fun e w' => e = .returned (.bool true) ∧ Below w.heap.size w w' := by
  clear w0 w1
  have HS := AllLt.start w; go_enter Try.func3, Try.ntmps3
  go_wp2_with fail
  (with_reducible refine (toInterval_any _ _ _).mono ?_)
  rintro e w1 ⟨rfl, hb⟩
  obtain ⟨HB, hz0, hz, hc, hf⟩ := bst (w0 := w) (by go_grown) hb; clear hb; (try simp at hz); (first | ((refine HS.g5 (m := w1.heap.size) ?_ ?_); (focus omega); intro HS) | ((refine HS.g4 (m := w1.heap.size) ?_ ?_); (focus omega); intro HS) | ((refine HS.g3 (m := w1.heap.size) ?_ ?_); (focus omega); intro HS) | ((refine HS.g2 (m := w1.heap.size) ?_ ?_); (focus omega); intro HS) | ((refine HS.g1 (m := w1.heap.size) ?_ ?_); (focus omega); intro HS) | ((refine HS.g0 (m := w1.heap.size) ?_ ?_); (focus omega); intro HS)); have HU := HS; simp only [AllLt] at HU
  go_wp2_with fail
  (with_reducible refine (sLengthOf_any _ _ _).mono ?_)
  rintro e w2 ⟨rfl, hb⟩
  obtain ⟨HB, hz0, hz, hc, hf⟩ := bst (w0 := w) (by go_grown) hb; clear hb; (try simp at hz); (first | ((refine HS.g5 (m := w2.heap.size) ?_ ?_); (focus omega); intro HS) | ((refine HS.g4 (m := w2.heap.size) ?_ ?_); (focus omega); intro HS) | ((refine HS.g3 (m := w2.heap.size) ?_ ?_); (focus omega); intro HS) | ((refine HS.g2 (m := w2.heap.size) ?_ ?_); (focus omega); intro HS) | ((refine HS.g1 (m := w2.heap.size) ?_ ?_); (focus omega); intro HS) | ((refine HS.g0 (m := w2.heap.size) ?_ ?_); (focus omega); intro HS)); have HU := HS; simp only [AllLt] at HU
  go_wp2_with fail
  (with_reducible refine (toInterval_any _ _ _).mono ?_)
  rintro e w3 ⟨rfl, hb⟩
  obtain ⟨HB, hz0, hz, hc, hf⟩ := bst (w0 := w) (by go_grown) hb; clear hb; (try simp at hz); (first | ((refine HS.g5 (m := w3.heap.size) ?_ ?_); (focus omega); intro HS) | ((refine HS.g4 (m := w3.heap.size) ?_ ?_); (focus omega); intro HS) | ((refine HS.g3 (m := w3.heap.size) ?_ ?_); (focus omega); intro HS) | ((refine HS.g2 (m := w3.heap.size) ?_ ?_); (focus omega); intro HS) | ((refine HS.g1 (m := w3.heap.size) ?_ ?_); (focus omega); intro HS) | ((refine HS.g0 (m := w3.heap.size) ?_ ?_); (focus omega); intro HS)); have HU := HS; simp only [AllLt] at HU
  go_wp2_with fail
  (with_reducible refine (iLengthOf_any _ _ _).mono ?_)
  rintro e w4 ⟨rfl, hb⟩
  obtain ⟨HB, hz0, hz, hc, hf⟩ := bst (w0 := w) (by go_grown) hb; clear hb; (try simp at hz); (first | ((refine HS.g5 (m := w4.heap.size) ?_ ?_); (focus omega); intro HS) | ((refine HS.g4 (m := w4.heap.size) ?_ ?_); (focus omega); intro HS) | ((refine HS.g3 (m := w4.heap.size) ?_ ?_); (focus omega); intro HS) | ((refine HS.g2 (m := w4.heap.size) ?_ ?_); (focus omega); intro HS) | ((refine HS.g1 (m := w4.heap.size) ?_ ?_); (focus omega); intro HS) | ((refine HS.g0 (m := w4.heap.size) ?_ ?_); (focus omega); intro HS)); have HU := HS; simp only [AllLt] at HU
  go_wp2
  go_ret
  exact ⟨rfl, by go_grown⟩
set_option maxHeartbeats 1000000 in
theorem walk_FnExactMirrorInterval (a0 a1 : Int) (w : World) (w0 : (Lit.int .i64 a0).wf = true) (w1 : (Lit.int .i64 a1).wf = true) :
    Calls Try.prog 6 #[.agg #[.int .i64 a0, .int .i64 a1]] w fun e w' => e = .returned (.bool true) ∧ Below w.heap.size w w' := by
  clear w0 w1
  have HS := AllLt.start w; go_enter Try.func6, Try.ntmps6
  go_wp2_with fail
  (with_reducible refine (toInterval_any _ _ _).mono ?_)
  rintro e w1 ⟨rfl, hb⟩
  obtain ⟨HB, hz0, hz, hc, hf⟩ := bst (w0 := w) (by go_grown) hb; clear hb; (try simp at hz); (first | ((refine HS.g5 (m := w1.heap.size) ?_ ?_); (focus omega); intro HS) | ((refine HS.g4 (m := w1.heap.size) ?_ ?_); (focus omega); intro HS) | ((refine HS.g3 (m := w1.heap.size) ?_ ?_); (focus omega); intro HS) | ((refine HS.g2 (m := w1.heap.size) ?_ ?_); (focus omega); intro HS) | ((refine HS.g1 (m := w1.heap.size) ?_ ?_); (focus omega); intro HS) | ((refine HS.g0 (m := w1.heap.size) ?_ ?_); (focus omega); intro HS)); have HU := HS; simp only [AllLt] at HU
  go_wp2_with fail
  (with_reducible refine (sMirrorInterval_any _ _ _).mono ?_)
  rintro e w2 ⟨rfl, hb⟩
  obtain ⟨HB, hz0, hz, hc, hf⟩ := bst (w0 := w) (by go_grown) hb; clear hb; (try simp at hz); (first | ((refine HS.g5 (m := w2.heap.size) ?_ ?_); (focus omega); intro HS) | ((refine HS.g4 (m := w2.heap.size) ?_ ?_); (focus omega); intro HS) | ((refine HS.g3 (m := w2.heap.size) ?_ ?_); (focus omega); intro HS) | ((refine HS.g2 (m := w2.heap.size) ?_ ?_); (focus omega); intro HS) | ((refine HS.g1 (m := w2.heap.size) ?_ ?_); (focus omega); intro HS) | ((refine HS.g0 (m := w2.heap.size) ?_ ?_); (focus omega); intro HS)); have HU := HS; simp only [AllLt] at HU
  go_wp2_with fail
  (with_reducible refine (toInterval_any _ _ _).mono ?_)
  rintro e w3 ⟨rfl, hb⟩
  obtain ⟨HB, hz0, hz, hc, hf⟩ := bst (w0 := w) (by go_grown) hb; clear hb; (try simp at hz); (first | ((refine HS.g5 (m := w3.heap.size) ?_ ?_); (focus omega); intro HS) | ((refine HS.g4 (m := w3.heap.size) ?_ ?_); (focus omega); intro HS) | ((refine HS.g3 (m := w3.heap.size) ?_ ?_); (focus omega); intro HS) | ((refine HS.g2 (m := w3.heap.size) ?_ ?_); (focus omega); intro HS) | ((refine HS.g1 (m := w3.heap.size) ?_ ?_); (focus omega); intro HS) | ((refine HS.g0 (m := w3.heap.size) ?_ ?_); (focus omega); intro HS)); have HU := HS; simp only [AllLt] at HU
  go_wp2_with fail
  (with_reducible refine (iMirrorInterval_any _ _ _).mono ?_)
  rintro e w4 ⟨rfl, hb⟩
  obtain ⟨HB, hz0, hz, hc, hf⟩ := bst (w0 := w) (by go_grown) hb; clear hb; (try simp at hz); (first | ((refine HS.g5 (m := w4.heap.size) ?_ ?_); (focus omega); intro HS) | ((refine HS.g4 (m := w4.heap.size) ?_ ?_); (focus omega); intro HS) | ((refine HS.g3 (m := w4.heap.size) ?_ ?_); (focus omega); intro HS) | ((refine HS.g2 (m := w4.heap.size) ?_ ?_); (focus omega); intro HS) | ((refine HS.g1 (m := w4.heap.size) ?_ ?_); (focus omega); intro HS) | ((refine HS.g0 (m := w4.heap.size) ?_ ?_); (focus omega); intro HS)); have HU := HS; simp only [AllLt] at HU
  go_wp2_with fail
  (with_reducible refine (eqInterval_same _ _ _).mono ?_)
  rintro e w5 ⟨rfl, hb⟩
  obtain ⟨HB, hz0, hz, hc, hf⟩ := bst (w0 := w) (by go_grown) hb; clear hb; (try simp at hz); (first | ((refine HS.g5 (m := w5.heap.size) ?_ ?_); (focus omega); intro HS) | ((refine HS.g4 (m := w5.heap.size) ?_ ?_); (focus omega); intro HS) | ((refine HS.g3 (m := w5.heap.size) ?_ ?_); (focus omega); intro HS) | ((refine HS.g2 (m := w5.heap.size) ?_ ?_); (focus omega); intro HS) | ((refine HS.g1 (m := w5.heap.size) ?_ ?_); (focus omega); intro HS) | ((refine HS.g0 (m := w5.heap.size) ?_ ?_); (focus omega); intro HS)); have HU := HS; simp only [AllLt] at HU
  go_wp2
  go_ret
  exact ⟨rfl, by go_grown⟩
end Go.Proofs.Ytnbjbkbfdpdbfab.C
