/- The basic relation of two intervals. -/
import Derived.Test.YtnogdjmciekieabDoorTab
import Derived.Deep.RegionHeld3
namespace Go.Proofs.YtnogdjmciekieabDoor.C
open Go.RowKit
set_option linter.unusedVariables false
set_option linter.unusedSimpArgs false
theorem zoneIn_any (x f t : Int) (w : World) :
    Calls Tryd.prog 101 #[.int .i64 x, .agg #[.int .i64 f, .int .i64 t]] w fun e w' => e = .returned (.int .i64 (zn x f t)) ∧ Below w.heap.size w w' := by
  rcases zn_cases x f t with ⟨h, hr⟩ | ⟨h, hr⟩ | ⟨h, h2, hr⟩ | ⟨h, h2, hr⟩ | ⟨h, h2, hr⟩
  all_goals
    have HR := hid hr
    clear hr
    try subst h
    try subst h2
    have HS := AllLt.start w; go_enter Tryd.func101, Tryd.ntmps101
    go_wp2
    go_ret
    exact ⟨ret_int HR.out.symm, by go_grown⟩
theorem l2Zone_any (x f t : Int) (w : World) :
    Calls Tryd.prog 136 #[.int .i64 x, .agg #[.int .i64 f, .int .i64 t]] w fun e w' => e = .returned (.int .i64 (zn x f t)) ∧ Below w.heap.size w w' := by
  rcases zn_cases x f t with ⟨h, hr⟩ | ⟨h, hr⟩ | ⟨h, h2, hr⟩ | ⟨h, h2, hr⟩ | ⟨h, h2, hr⟩
  all_goals
    have HR := hid hr
    clear hr
    try subst h
    try subst h2
    have HS := AllLt.start w; go_enter Tryd.func136, Tryd.ntmps136
    go_wp2
    go_ret
    exact ⟨ret_int HR.out.symm, by go_grown⟩
set_option maxHeartbeats 1000000 in
theorem l2Rel_any (a b c d : Int) (w : World) :
    Calls Tryd.prog 125 #[.agg #[.int .i64 a, .int .i64 b], .agg #[.int .i64 c, .int .i64 d]] w fun e w' => e = .returned (.int .i64 (batI (zn a c d) (zn b c d))) ∧ Below w.heap.size w w' := by
  have HS := AllLt.start w; have hn2 := lt2; have hn3 := lt3; have hn4 := lt4; go_enter Tryd.func125, Tryd.ntmps125
  go_wp2_with fail
  go_region_held3 (fun w' => w'.cell? ⟨w.heap.size, 0, none⟩ = some (.int .i64 a) ∧ w'.cell? ⟨w.heap.size, 1, none⟩ = some (.int .i64 b) ∧ w'.cell? ⟨w.heap.size + 1, 0, none⟩ = some (.int .i64 c) ∧ w'.cell? ⟨w.heap.size + 1, 1, none⟩ = some (.int .i64 d)) (go_keep)
    (first | (go_at_call 136; (with_reducible refine (l2Zone_any _ _ _ _).mono ?_); rintro e w' ⟨rfl, hb⟩; obtain ⟨HB, hz0, hz, hc, hf⟩ := bst (w0 := w) (by go_grown) hb; clear hb; (try simp at hz); (first | ((refine HS.g5 (m := w'.heap.size) ?_ ?_); (focus omega); intro HS) | ((refine HS.g4 (m := w'.heap.size) ?_ ?_); (focus omega); intro HS) | ((refine HS.g3 (m := w'.heap.size) ?_ ?_); (focus omega); intro HS) | ((refine HS.g2 (m := w'.heap.size) ?_ ?_); (focus omega); intro HS) | ((refine HS.g1 (m := w'.heap.size) ?_ ?_); (focus omega); intro HS) | ((refine HS.g0 (m := w'.heap.size) ?_ ?_); (focus omega); intro HS)); have HU := HS; simp only [AllLt] at HU) | (go_at_call 135; (with_reducible refine (l2Basic_any _ _ _).mono ?_); rintro e w' ⟨rfl, rfl⟩))
  all_goals
    go_wp2
    go_ret
    exact ⟨rfl, by (repeat' (first | (with_reducible exact Below.refl _ _) | (with_reducible refine Below.setCell ?_ ?_ _) | (with_reducible refine below_drewN' ?_ _) | (with_reducible refine below_drew' ?_) | (with_reducible refine Below.alloc ?_ ?_ _) | (with_reducible assumption) | go_size))⟩
set_option maxHeartbeats 1000000 in
theorem iBasicOf_any (a b c d : Int) (w : World) (hT : TB w) :
    Calls Tryd.prog 66 #[.agg #[.int .i64 a, .int .i64 b], .agg #[.int .i64 c, .int .i64 d]] w fun e w' => e = .returned (.string (boS a b c d)) ∧ Below w.heap.size w w' := by
  have HT := hid hT
  clear hT
  cases h1 : iv a b
  · have H1 := hid h1
    clear h1
    have HS := AllLt.start w; have hn2 := lt2; have hn3 := lt3; have hn4 := lt4; go_enter Tryd.func66, Tryd.ntmps66
    go_wp2_with (first | (go_at_call 67; (with_reducible refine (iIntervalValid_any a b _).mono ?_); rintro e w' ⟨rfl, hb⟩; obtain ⟨HB, hz0, hz, hc, hf⟩ := bst (w0 := w) (by go_grown) hb; clear hb; (try simp at hz); (first | ((refine HS.g5 (m := w'.heap.size) ?_ ?_); (focus omega); intro HS) | ((refine HS.g4 (m := w'.heap.size) ?_ ?_); (focus omega); intro HS) | ((refine HS.g3 (m := w'.heap.size) ?_ ?_); (focus omega); intro HS) | ((refine HS.g2 (m := w'.heap.size) ?_ ?_); (focus omega); intro HS) | ((refine HS.g1 (m := w'.heap.size) ?_ ?_); (focus omega); intro HS) | ((refine HS.g0 (m := w'.heap.size) ?_ ?_); (focus omega); intro HS)); have HU := HS; simp only [AllLt] at HU; rw [H1.out]))
    go_ret
    exact ⟨ret_str (boS_f1 H1.out).symm, by (repeat' (first | (with_reducible exact Below.refl _ _) | (with_reducible refine Below.setCell ?_ ?_ _) | (with_reducible refine below_drewN' ?_ _) | (with_reducible refine below_drew' ?_) | (with_reducible refine Below.alloc ?_ ?_ _) | (with_reducible assumption) | go_size))⟩
  · cases h2 : iv c d
    · have H1 := hid h1
      have H2 := hid h2
      clear h1 h2
      by_cases hx : a = c ∧ b = d
      · exfalso
        obtain ⟨rfl, rfl⟩ := hx
        exact Bool.noConfusion (H1.out.symm.trans H2.out)
      · have HS := AllLt.start w; have hn2 := lt2; have hn3 := lt3; have hn4 := lt4; go_enter Tryd.func66, Tryd.ntmps66
        go_wp2_with (first | (go_at_call 67; (with_reducible refine (iIntervalValid_any a b _).mono ?_); rintro e w' ⟨rfl, hb⟩; obtain ⟨HB, hz0, hz, hc, hf⟩ := bst (w0 := w) (by go_grown) hb; clear hb; (try simp at hz); (first | ((refine HS.g5 (m := w'.heap.size) ?_ ?_); (focus omega); intro HS) | ((refine HS.g4 (m := w'.heap.size) ?_ ?_); (focus omega); intro HS) | ((refine HS.g3 (m := w'.heap.size) ?_ ?_); (focus omega); intro HS) | ((refine HS.g2 (m := w'.heap.size) ?_ ?_); (focus omega); intro HS) | ((refine HS.g1 (m := w'.heap.size) ?_ ?_); (focus omega); intro HS) | ((refine HS.g0 (m := w'.heap.size) ?_ ?_); (focus omega); intro HS)); have HU := HS; simp only [AllLt] at HU; rw [H1.out]) | (go_at_call 67; (with_reducible refine (iIntervalValid_any c d _).mono ?_); rintro e w' ⟨rfl, hb⟩; obtain ⟨HB, hz0, hz, hc, hf⟩ := bst (w0 := w) (by go_grown) hb; clear hb; (try simp at hz); (first | ((refine HS.g5 (m := w'.heap.size) ?_ ?_); (focus omega); intro HS) | ((refine HS.g4 (m := w'.heap.size) ?_ ?_); (focus omega); intro HS) | ((refine HS.g3 (m := w'.heap.size) ?_ ?_); (focus omega); intro HS) | ((refine HS.g2 (m := w'.heap.size) ?_ ?_); (focus omega); intro HS) | ((refine HS.g1 (m := w'.heap.size) ?_ ?_); (focus omega); intro HS) | ((refine HS.g0 (m := w'.heap.size) ?_ ?_); (focus omega); intro HS)); have HU := HS; simp only [AllLt] at HU; rw [H2.out]))
        go_ret
        exact ⟨ret_str (boS_f2 H2.out).symm, by (repeat' (first | (with_reducible exact Below.refl _ _) | (with_reducible refine Below.setCell ?_ ?_ _) | (with_reducible refine below_drewN' ?_ _) | (with_reducible refine below_drew' ?_) | (with_reducible refine Below.alloc ?_ ?_ _) | (with_reducible assumption) | go_size))⟩
    · have H1 := hid h1
      have H2 := hid h2
      clear h1 h2
      have HS := AllLt.start w; go_enter Tryd.func66, Tryd.ntmps66
      go_wp2_with fail
      (with_reducible refine (iIntervalValid_any a b _).mono ?_)
      rintro e w1 ⟨rfl, hb1⟩
      rw [H1.out]
      have p0 : w1.cell? ⟨w.heap.size, 0, none⟩ = some (.int .i64 a) := by
        rw [hb1.cell (p := ⟨w.heap.size, 0, none⟩) (by first | omega | (simp; done) | (simp; omega))]
        simp [go_sem]
      have p1 : w1.cell? ⟨w.heap.size, 1, none⟩ = some (.int .i64 b) := by
        rw [hb1.cell (p := ⟨w.heap.size, 1, none⟩) (by first | omega | (simp; done) | (simp; omega))]
        simp [go_sem]
      have p2 : w1.cell? ⟨w.heap.size + 1, 0, none⟩ = some (.int .i64 c) := by
        rw [hb1.cell (p := ⟨w.heap.size + 1, 0, none⟩) (by first | omega | (simp; done) | (simp; omega))]
        simp [go_sem]
      have p3 : w1.cell? ⟨w.heap.size + 1, 1, none⟩ = some (.int .i64 d) := by
        rw [hb1.cell (p := ⟨w.heap.size + 1, 1, none⟩) (by first | omega | (simp; done) | (simp; omega))]
        simp [go_sem]
      have z1 : w.heap.size + 1 < w1.heap.size := by
        have := hb1.size
        simp only [World.size_alloc] at this
        omega
      have hB1 : Below w.heap.size w w1 := (((Below.refl w.heap.size w).alloc (Nat.le_refl _) _).alloc (by simp) _).trans (hb1.mono (by simp; omega))
      clear hb1
      go_wp2_with fail
      (with_reducible refine (iIntervalValid_any c d _).mono ?_)
      rintro e w2 ⟨rfl, hb2⟩
      rw [H2.out]
      have r0 : w2.cell? ⟨w.heap.size, 0, none⟩ = some (.int .i64 a) := by
        rw [hb2.cell (p := ⟨w.heap.size, 0, none⟩) (by first | omega | (simp; done) | (simp; omega))]
        first | exact p0 | simp [go_sem]
      have r1 : w2.cell? ⟨w.heap.size, 1, none⟩ = some (.int .i64 b) := by
        rw [hb2.cell (p := ⟨w.heap.size, 1, none⟩) (by first | omega | (simp; done) | (simp; omega))]
        first | exact p1 | simp [go_sem]
      have r2 : w2.cell? ⟨w.heap.size + 1, 0, none⟩ = some (.int .i64 c) := by
        rw [hb2.cell (p := ⟨w.heap.size + 1, 0, none⟩) (by first | omega | (simp; done) | (simp; omega))]
        first | exact p2 | simp [go_sem]
      have r3 : w2.cell? ⟨w.heap.size + 1, 1, none⟩ = some (.int .i64 d) := by
        rw [hb2.cell (p := ⟨w.heap.size + 1, 1, none⟩) (by first | omega | (simp; done) | (simp; omega))]
        first | exact p3 | simp [go_sem]
      have z2 : w.heap.size + 1 < w2.heap.size := by have := hb2.size; omega
      have z3 : w.heap.size < w2.heap.size := by omega
      have hB2 : Below w.heap.size w w2 := hB1.trans (hb2.mono (by omega))
      have HT2 := hid (HT.out.below hB2)
      clear p0 p1 p2 p3 hB1 z1 hb2
      go_wp2_with fail
      have hB2' := hid hB2
      clear hB2
      go_region_held3 (fun w' => w'.cell? ⟨w.heap.size, 0, none⟩ = some (.int .i64 a) ∧ w'.cell? ⟨w.heap.size, 1, none⟩ = some (.int .i64 b) ∧ w'.cell? ⟨w.heap.size + 1, 0, none⟩ = some (.int .i64 c) ∧ w'.cell? ⟨w.heap.size + 1, 1, none⟩ = some (.int .i64 d))
        (first | exact ⟨by rw [HB.cell (p := ⟨w.heap.size, 0, none⟩) z3]; exact r0, by rw [HB.cell (p := ⟨w.heap.size, 1, none⟩) z3]; exact r1, by rw [HB.cell (p := ⟨w.heap.size + 1, 0, none⟩) z2]; exact r2, by rw [HB.cell (p := ⟨w.heap.size + 1, 1, none⟩) z2]; exact r3⟩ | exact ⟨r0, r1, r2, r3⟩ | go_keep)
        (first | (go_at_call 101; (with_reducible refine (zoneIn_any _ _ _ _).mono ?_); rintro e w' ⟨rfl, hb⟩; obtain ⟨HB, hz0, hz, hc, hf⟩ := bst (w0 := w2) (by go_grown) hb; clear hb hf hc hz hz0) | (go_at_call 100; (with_reducible refine (iBasicAt_any _ _ _ (HT2.out.below (by go_grown))).mono ?_); rintro e w' ⟨rfl, hb⟩; obtain ⟨HB, hz0, hz, hc, hf⟩ := bst (w0 := w2) (by go_grown) hb; clear hb hf hc hz hz0))
      all_goals
        go_wp2
        go_ret
        exact ⟨ret_str (boS_t H1.out H2.out).symm, hB2'.out.trans (HB.mono hB2'.out.size)⟩
end Go.Proofs.YtnogdjmciekieabDoor.C
