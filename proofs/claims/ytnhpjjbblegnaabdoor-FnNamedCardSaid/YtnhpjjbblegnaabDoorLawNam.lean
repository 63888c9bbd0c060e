/- The law of relations with a name. -/
import Derived.Test.YtnhpjjbblegnaabDoorLawNamA
namespace Go.Proofs.YtnhpjjbblegnaabDoor.C
open Go.RowKit
set_option linter.unusedVariables false
set_option linter.unusedSimpArgs false
set_option maxHeartbeats 8000000 in
set_option maxRecDepth 100000 in
theorem walk_FnNamed (a0 : Option Addr) (len0 cap0 : Nat) (z0 : List Int) (a1 : Option Addr) (len1 cap1 : Nat) (z1 : List Int) (w : World) (w0 : IsRow .u8 w a0 len0 cap0 z0) (w1 : IsRow .u8 w a1 len1 cap1 z1) (hB : TB w) (h_namedTable : TN w) :
    Calls Tryd.prog 10 #[.slice a0 len0 cap0, .slice a1 len1 cap1] w fun e w' => e = .returned (.bool true) ∧ Below w.heap.size w w' := by
  have HT0 := hid hB
  have HN0 := hid h_namedTable
  clear hB h_namedTable
  by_cases hl : len0 ≤ 1048576
  · have hd : decide ((1048576 : Int) < (len0 : Int)) = false := by simp; omega
    by_cases hl1 : len1 ≤ 1048576
    · have hd1 : decide ((1048576 : Int) < (len1 : Int)) = false := by simp; omega
      have HS := AllLt.start w; go_enter Tryd.func10, Tryd.ntmps10
      go_wp2_with fail
      refine (DrawNamedRel_any _ _ _ _ _ w0).mono ?_
      rintro e wa ⟨v, _, rfl, hb⟩
      have HT := hid (HT0.out.below hb)
      have HN := hid (HN0.out.below hb)
      have Hb := hid hb
      have W1 := hid (w1.below hb)
      clear w0 w1 hb HS HT0 HN0
      rcases nm_cases v with rfl | rfl | rfl | rfl | rfl | rfl | rfl | rfl | ⟨q0, q1, q2, q3, q4, q5, q6, q7, hr⟩
      · have E := hid (show nmI ⟨#[97, 108, 108]⟩ = (8191, true) by decide +kernel)
        go_wp2_with (first | (go_at_call 56; (with_reducible refine (iNamedRel_any _ _ (HT.out.below (by go_grown)) (HN.out.below (by go_grown))).mono ?_); rintro e w' ⟨rfl, hb⟩; simp only [E.out]; obtain ⟨HB, hz0, hz, hc, hf⟩ := bst (w0 := wa) (by go_grown) hb; clear hb hz hc hf hz0) | (go_at_call 57; (with_reducible refine (sNamedRel_any _ _).mono ?_); rintro e w' ⟨rfl, rfl⟩; simp only [E.out]) | fail)
        refine (DrawBasicOf_any _ _ _ _ _ (W1.out.below (by go_grown))).mono ?_
        rintro e wb ⟨a, b, c, d, rfl, hb⟩
        have HBb : Below wa.heap.size wa wb := (bst (w0 := wa) (by go_grown) hb).1
        have HT2 := hid (HT.out.below HBb)
        have Hb2 := hid (Hb.out.trans (HBb.mono Hb.out.size))
        clear hb HBb W1 HT Hb HN E
        try clear HB
        have HS := AllLt.start wb
        have hn2 := lt2
        have hn3 := lt3
        cases h1 : iv a b
        · have H1 := hid h1
          clear h1
          go_wp2_with (first | (go_at_call 37; (with_reducible refine (iIntervalValid_any a b _).mono ?_); rintro e w' ⟨rfl, hb⟩; rw [H1.out]; obtain ⟨HB, hz0, hz, hc, hf⟩ := bst (w0 := wb) (by go_grown) hb; clear hb; (try simp at hz); (first | ((refine HS.g5 (m := w'.heap.size) ?_ ?_); (focus omega); intro HS) | ((refine HS.g4 (m := w'.heap.size) ?_ ?_); (focus omega); intro HS) | ((refine HS.g3 (m := w'.heap.size) ?_ ?_); (focus omega); intro HS) | ((refine HS.g2 (m := w'.heap.size) ?_ ?_); (focus omega); intro HS) | ((refine HS.g1 (m := w'.heap.size) ?_ ?_); (focus omega); intro HS) | ((refine HS.g0 (m := w'.heap.size) ?_ ?_); (focus omega); intro HS)); have HU := HS; simp only [AllLt] at HU) | fail)
          go_ret
          exact ⟨ret_bool (by first | rfl | (rw [HM.out]; rfl) | (simp [HM.out]; done) | (simp; done) | (simp [*]; done) | (simp [*]; omega)), Hb2.out.trans (Below.mono (by (repeat' (first | (with_reducible exact Below.refl _ _) | (with_reducible refine Below.setCell ?_ ?_ _) | (with_reducible refine below_drewN' ?_ _) | (with_reducible refine below_drew' ?_) | (with_reducible refine Below.alloc ?_ ?_ _) | (with_reducible assumption) | go_size))) Hb2.out.size)⟩
        · cases h2 : iv c d
          · by_cases heq : a = c ∧ b = d
            · exfalso; obtain ⟨rfl, rfl⟩ := heq; exact Bool.noConfusion (h1.symm.trans h2)
            · have H1 := hid h1
              have H2 := hid h2
              clear h1 h2 heq
              go_wp2_with (first | (go_at_call 37; (with_reducible refine (iIntervalValid_any a b _).mono ?_); rintro e w' ⟨rfl, hb⟩; rw [H1.out]; obtain ⟨HB, hz0, hz, hc, hf⟩ := bst (w0 := wb) (by go_grown) hb; clear hb; (try simp at hz); (first | ((refine HS.g5 (m := w'.heap.size) ?_ ?_); (focus omega); intro HS) | ((refine HS.g4 (m := w'.heap.size) ?_ ?_); (focus omega); intro HS) | ((refine HS.g3 (m := w'.heap.size) ?_ ?_); (focus omega); intro HS) | ((refine HS.g2 (m := w'.heap.size) ?_ ?_); (focus omega); intro HS) | ((refine HS.g1 (m := w'.heap.size) ?_ ?_); (focus omega); intro HS) | ((refine HS.g0 (m := w'.heap.size) ?_ ?_); (focus omega); intro HS)); have HU := HS; simp only [AllLt] at HU) | (go_at_call 37; (with_reducible refine (iIntervalValid_any c d _).mono ?_); rintro e w' ⟨rfl, hb⟩; rw [H2.out]; obtain ⟨HB, hz0, hz, hc, hf⟩ := bst (w0 := wb) (by go_grown) hb; clear hb; (try simp at hz); (first | ((refine HS.g5 (m := w'.heap.size) ?_ ?_); (focus omega); intro HS) | ((refine HS.g4 (m := w'.heap.size) ?_ ?_); (focus omega); intro HS) | ((refine HS.g3 (m := w'.heap.size) ?_ ?_); (focus omega); intro HS) | ((refine HS.g2 (m := w'.heap.size) ?_ ?_); (focus omega); intro HS) | ((refine HS.g1 (m := w'.heap.size) ?_ ?_); (focus omega); intro HS) | ((refine HS.g0 (m := w'.heap.size) ?_ ?_); (focus omega); intro HS)); have HU := HS; simp only [AllLt] at HU) | fail)
              go_ret
              exact ⟨ret_bool (by first | rfl | exact HMM.out | (rw [HMM.out]; rfl) | (rw [HM.out]; rfl) | (simp [HM.out]; done) | (simp; done) | (simp [*]; done) | (simp [*]; omega)), Hb2.out.trans (Below.mono (by (repeat' (first | (with_reducible exact Below.refl _ _) | (with_reducible refine Below.setCell ?_ ?_ _) | (with_reducible refine below_drewN' ?_ _) | (with_reducible refine below_drew' ?_) | (with_reducible refine Below.alloc ?_ ?_ _) | (with_reducible assumption) | go_size))) Hb2.out.size)⟩
          · obtain ⟨t0, t1, t2, t3, t4, t5, t6, t7⟩ := nm_rel h1 h2
            have H1 := hid h1
            have H2 := hid h2
            have HM := hid (Eq.refl (mtB a b c d))
            clear h1 h2
            have HRB := hid t0
            clear t0 t1 t2 t3 t4 t5 t6 t7
            go_wp2_with (first | (go_at_call 37; (with_reducible refine (iIntervalValid_any a b _).mono ?_); rintro e w' ⟨rfl, hb⟩; rw [H1.out]; obtain ⟨HB, hz0, hz, hc, hf⟩ := bst (w0 := wb) (by go_grown) hb; clear hb; (try simp at hz); (first | ((refine HS.g5 (m := w'.heap.size) ?_ ?_); (focus omega); intro HS) | ((refine HS.g4 (m := w'.heap.size) ?_ ?_); (focus omega); intro HS) | ((refine HS.g3 (m := w'.heap.size) ?_ ?_); (focus omega); intro HS) | ((refine HS.g2 (m := w'.heap.size) ?_ ?_); (focus omega); intro HS) | ((refine HS.g1 (m := w'.heap.size) ?_ ?_); (focus omega); intro HS) | ((refine HS.g0 (m := w'.heap.size) ?_ ?_); (focus omega); intro HS)); have HU := HS; simp only [AllLt] at HU) | (go_at_call 37; (with_reducible refine (iIntervalValid_any c d _).mono ?_); rintro e w' ⟨rfl, hb⟩; rw [H2.out]; obtain ⟨HB, hz0, hz, hc, hf⟩ := bst (w0 := wb) (by go_grown) hb; clear hb; (try simp at hz); (first | ((refine HS.g5 (m := w'.heap.size) ?_ ?_); (focus omega); intro HS) | ((refine HS.g4 (m := w'.heap.size) ?_ ?_); (focus omega); intro HS) | ((refine HS.g3 (m := w'.heap.size) ?_ ?_); (focus omega); intro HS) | ((refine HS.g2 (m := w'.heap.size) ?_ ?_); (focus omega); intro HS) | ((refine HS.g1 (m := w'.heap.size) ?_ ?_); (focus omega); intro HS) | ((refine HS.g0 (m := w'.heap.size) ?_ ?_); (focus omega); intro HS)); have HU := HS; simp only [AllLt] at HU) | (go_at_call 54; (with_reducible refine (iRelHolds_any _ a b c d _ (HT2.out.below (by go_grown))).mono ?_); rintro e w' ⟨rfl, hb⟩; rw [HRB.out]; obtain ⟨HB, hz0, hz, hc, hf⟩ := bst (w0 := wb) (by go_grown) hb; clear hb; (try simp at hz); (first | ((refine HS.g5 (m := w'.heap.size) ?_ ?_); (focus omega); intro HS) | ((refine HS.g4 (m := w'.heap.size) ?_ ?_); (focus omega); intro HS) | ((refine HS.g3 (m := w'.heap.size) ?_ ?_); (focus omega); intro HS) | ((refine HS.g2 (m := w'.heap.size) ?_ ?_); (focus omega); intro HS) | ((refine HS.g1 (m := w'.heap.size) ?_ ?_); (focus omega); intro HS) | ((refine HS.g0 (m := w'.heap.size) ?_ ?_); (focus omega); intro HS)); have HU := HS; simp only [AllLt] at HU) | (go_at_call 58; (with_reducible refine (iMeetOf_any a b c d _).mono ?_); rintro e w' ⟨rfl, hb⟩; (try rw [HM.out]); obtain ⟨HB, hz0, hz, hc, hf⟩ := bst (w0 := wb) (by go_grown) hb; clear hb; (try simp at hz); (first | ((refine HS.g5 (m := w'.heap.size) ?_ ?_); (focus omega); intro HS) | ((refine HS.g4 (m := w'.heap.size) ?_ ?_); (focus omega); intro HS) | ((refine HS.g3 (m := w'.heap.size) ?_ ?_); (focus omega); intro HS) | ((refine HS.g2 (m := w'.heap.size) ?_ ?_); (focus omega); intro HS) | ((refine HS.g1 (m := w'.heap.size) ?_ ?_); (focus omega); intro HS) | ((refine HS.g0 (m := w'.heap.size) ?_ ?_); (focus omega); intro HS)); have HU := HS; simp only [AllLt] at HU) | fail)
            go_ret
            exact ⟨ret_bool (by first | rfl | (rw [HM.out]; rfl) | (simp [HM.out]; done) | (simp; done) | (simp [*]; done) | (simp [*]; omega)), Hb2.out.trans (Below.mono (by (repeat' (first | (with_reducible exact Below.refl _ _) | (with_reducible refine Below.setCell ?_ ?_ _) | (with_reducible refine below_drewN' ?_ _) | (with_reducible refine below_drew' ?_) | (with_reducible refine Below.alloc ?_ ?_ _) | (with_reducible assumption) | go_size))) Hb2.out.size)⟩
      · have E := hid (show nmI ⟨#[110, 111, 110, 101]⟩ = (0, true) by decide +kernel)
        go_wp2_with (first | (go_at_call 56; (with_reducible refine (iNamedRel_any _ _ (HT.out.below (by go_grown)) (HN.out.below (by go_grown))).mono ?_); rintro e w' ⟨rfl, hb⟩; simp only [E.out]; obtain ⟨HB, hz0, hz, hc, hf⟩ := bst (w0 := wa) (by go_grown) hb; clear hb hz hc hf hz0) | (go_at_call 57; (with_reducible refine (sNamedRel_any _ _).mono ?_); rintro e w' ⟨rfl, rfl⟩; simp only [E.out]) | fail)
        refine (DrawBasicOf_any _ _ _ _ _ (W1.out.below (by go_grown))).mono ?_
        rintro e wb ⟨a, b, c, d, rfl, hb⟩
        have HBb : Below wa.heap.size wa wb := (bst (w0 := wa) (by go_grown) hb).1
        have HT2 := hid (HT.out.below HBb)
        have Hb2 := hid (Hb.out.trans (HBb.mono Hb.out.size))
        clear hb HBb W1 HT Hb HN E
        try clear HB
        have HS := AllLt.start wb
        have hn2 := lt2
        have hn3 := lt3
        cases h1 : iv a b
        · have H1 := hid h1
          clear h1
          go_wp2_with (first | (go_at_call 37; (with_reducible refine (iIntervalValid_any a b _).mono ?_); rintro e w' ⟨rfl, hb⟩; rw [H1.out]; obtain ⟨HB, hz0, hz, hc, hf⟩ := bst (w0 := wb) (by go_grown) hb; clear hb; (try simp at hz); (first | ((refine HS.g5 (m := w'.heap.size) ?_ ?_); (focus omega); intro HS) | ((refine HS.g4 (m := w'.heap.size) ?_ ?_); (focus omega); intro HS) | ((refine HS.g3 (m := w'.heap.size) ?_ ?_); (focus omega); intro HS) | ((refine HS.g2 (m := w'.heap.size) ?_ ?_); (focus omega); intro HS) | ((refine HS.g1 (m := w'.heap.size) ?_ ?_); (focus omega); intro HS) | ((refine HS.g0 (m := w'.heap.size) ?_ ?_); (focus omega); intro HS)); have HU := HS; simp only [AllLt] at HU) | fail)
          go_ret
          exact ⟨ret_bool (by first | rfl | (rw [HM.out]; rfl) | (simp [HM.out]; done) | (simp; done) | (simp [*]; done) | (simp [*]; omega)), Hb2.out.trans (Below.mono (by (repeat' (first | (with_reducible exact Below.refl _ _) | (with_reducible refine Below.setCell ?_ ?_ _) | (with_reducible refine below_drewN' ?_ _) | (with_reducible refine below_drew' ?_) | (with_reducible refine Below.alloc ?_ ?_ _) | (with_reducible assumption) | go_size))) Hb2.out.size)⟩
        · cases h2 : iv c d
          · by_cases heq : a = c ∧ b = d
            · exfalso; obtain ⟨rfl, rfl⟩ := heq; exact Bool.noConfusion (h1.symm.trans h2)
            · have H1 := hid h1
              have H2 := hid h2
              clear h1 h2 heq
              go_wp2_with (first | (go_at_call 37; (with_reducible refine (iIntervalValid_any a b _).mono ?_); rintro e w' ⟨rfl, hb⟩; rw [H1.out]; obtain ⟨HB, hz0, hz, hc, hf⟩ := bst (w0 := wb) (by go_grown) hb; clear hb; (try simp at hz); (first | ((refine HS.g5 (m := w'.heap.size) ?_ ?_); (focus omega); intro HS) | ((refine HS.g4 (m := w'.heap.size) ?_ ?_); (focus omega); intro HS) | ((refine HS.g3 (m := w'.heap.size) ?_ ?_); (focus omega); intro HS) | ((refine HS.g2 (m := w'.heap.size) ?_ ?_); (focus omega); intro HS) | ((refine HS.g1 (m := w'.heap.size) ?_ ?_); (focus omega); intro HS) | ((refine HS.g0 (m := w'.heap.size) ?_ ?_); (focus omega); intro HS)); have HU := HS; simp only [AllLt] at HU) | (go_at_call 37; (with_reducible refine (iIntervalValid_any c d _).mono ?_); rintro e w' ⟨rfl, hb⟩; rw [H2.out]; obtain ⟨HB, hz0, hz, hc, hf⟩ := bst (w0 := wb) (by go_grown) hb; clear hb; (try simp at hz); (first | ((refine HS.g5 (m := w'.heap.size) ?_ ?_); (focus omega); intro HS) | ((refine HS.g4 (m := w'.heap.size) ?_ ?_); (focus omega); intro HS) | ((refine HS.g3 (m := w'.heap.size) ?_ ?_); (focus omega); intro HS) | ((refine HS.g2 (m := w'.heap.size) ?_ ?_); (focus omega); intro HS) | ((refine HS.g1 (m := w'.heap.size) ?_ ?_); (focus omega); intro HS) | ((refine HS.g0 (m := w'.heap.size) ?_ ?_); (focus omega); intro HS)); have HU := HS; simp only [AllLt] at HU) | fail)
              go_ret
              exact ⟨ret_bool (by first | rfl | exact HMM.out | (rw [HMM.out]; rfl) | (rw [HM.out]; rfl) | (simp [HM.out]; done) | (simp; done) | (simp [*]; done) | (simp [*]; omega)), Hb2.out.trans (Below.mono (by (repeat' (first | (with_reducible exact Below.refl _ _) | (with_reducible refine Below.setCell ?_ ?_ _) | (with_reducible refine below_drewN' ?_ _) | (with_reducible refine below_drew' ?_) | (with_reducible refine Below.alloc ?_ ?_ _) | (with_reducible assumption) | go_size))) Hb2.out.size)⟩
          · obtain ⟨t0, t1, t2, t3, t4, t5, t6, t7⟩ := nm_rel h1 h2
            have H1 := hid h1
            have H2 := hid h2
            have HM := hid (Eq.refl (mtB a b c d))
            clear h1 h2
            have HRB := hid t1
            clear t0 t1 t2 t3 t4 t5 t6 t7
            go_wp2_with (first | (go_at_call 37; (with_reducible refine (iIntervalValid_any a b _).mono ?_); rintro e w' ⟨rfl, hb⟩; rw [H1.out]; obtain ⟨HB, hz0, hz, hc, hf⟩ := bst (w0 := wb) (by go_grown) hb; clear hb; (try simp at hz); (first | ((refine HS.g5 (m := w'.heap.size) ?_ ?_); (focus omega); intro HS) | ((refine HS.g4 (m := w'.heap.size) ?_ ?_); (focus omega); intro HS) | ((refine HS.g3 (m := w'.heap.size) ?_ ?_); (focus omega); intro HS) | ((refine HS.g2 (m := w'.heap.size) ?_ ?_); (focus omega); intro HS) | ((refine HS.g1 (m := w'.heap.size) ?_ ?_); (focus omega); intro HS) | ((refine HS.g0 (m := w'.heap.size) ?_ ?_); (focus omega); intro HS)); have HU := HS; simp only [AllLt] at HU) | (go_at_call 37; (with_reducible refine (iIntervalValid_any c d _).mono ?_); rintro e w' ⟨rfl, hb⟩; rw [H2.out]; obtain ⟨HB, hz0, hz, hc, hf⟩ := bst (w0 := wb) (by go_grown) hb; clear hb; (try simp at hz); (first | ((refine HS.g5 (m := w'.heap.size) ?_ ?_); (focus omega); intro HS) | ((refine HS.g4 (m := w'.heap.size) ?_ ?_); (focus omega); intro HS) | ((refine HS.g3 (m := w'.heap.size) ?_ ?_); (focus omega); intro HS) | ((refine HS.g2 (m := w'.heap.size) ?_ ?_); (focus omega); intro HS) | ((refine HS.g1 (m := w'.heap.size) ?_ ?_); (focus omega); intro HS) | ((refine HS.g0 (m := w'.heap.size) ?_ ?_); (focus omega); intro HS)); have HU := HS; simp only [AllLt] at HU) | (go_at_call 54; (with_reducible refine (iRelHolds_any _ a b c d _ (HT2.out.below (by go_grown))).mono ?_); rintro e w' ⟨rfl, hb⟩; rw [HRB.out]; obtain ⟨HB, hz0, hz, hc, hf⟩ := bst (w0 := wb) (by go_grown) hb; clear hb; (try simp at hz); (first | ((refine HS.g5 (m := w'.heap.size) ?_ ?_); (focus omega); intro HS) | ((refine HS.g4 (m := w'.heap.size) ?_ ?_); (focus omega); intro HS) | ((refine HS.g3 (m := w'.heap.size) ?_ ?_); (focus omega); intro HS) | ((refine HS.g2 (m := w'.heap.size) ?_ ?_); (focus omega); intro HS) | ((refine HS.g1 (m := w'.heap.size) ?_ ?_); (focus omega); intro HS) | ((refine HS.g0 (m := w'.heap.size) ?_ ?_); (focus omega); intro HS)); have HU := HS; simp only [AllLt] at HU) | (go_at_call 58; (with_reducible refine (iMeetOf_any a b c d _).mono ?_); rintro e w' ⟨rfl, hb⟩; (try rw [HM.out]); obtain ⟨HB, hz0, hz, hc, hf⟩ := bst (w0 := wb) (by go_grown) hb; clear hb; (try simp at hz); (first | ((refine HS.g5 (m := w'.heap.size) ?_ ?_); (focus omega); intro HS) | ((refine HS.g4 (m := w'.heap.size) ?_ ?_); (focus omega); intro HS) | ((refine HS.g3 (m := w'.heap.size) ?_ ?_); (focus omega); intro HS) | ((refine HS.g2 (m := w'.heap.size) ?_ ?_); (focus omega); intro HS) | ((refine HS.g1 (m := w'.heap.size) ?_ ?_); (focus omega); intro HS) | ((refine HS.g0 (m := w'.heap.size) ?_ ?_); (focus omega); intro HS)); have HU := HS; simp only [AllLt] at HU) | fail)
            go_ret
            exact ⟨ret_bool (by first | rfl | (rw [HM.out]; rfl) | (simp [HM.out]; done) | (simp; done) | (simp [*]; done) | (simp [*]; omega)), Hb2.out.trans (Below.mono (by (repeat' (first | (with_reducible exact Below.refl _ _) | (with_reducible refine Below.setCell ?_ ?_ _) | (with_reducible refine below_drewN' ?_ _) | (with_reducible refine below_drew' ?_) | (with_reducible refine Below.alloc ?_ ?_ _) | (with_reducible assumption) | go_size))) Hb2.out.size)⟩
      · have E := hid (show nmI ⟨#[97, 112, 97, 114, 116]⟩ = (6147, true) by decide +kernel)
        go_wp2_with (first | (go_at_call 56; (with_reducible refine (iNamedRel_any _ _ (HT.out.below (by go_grown)) (HN.out.below (by go_grown))).mono ?_); rintro e w' ⟨rfl, hb⟩; simp only [E.out]; obtain ⟨HB, hz0, hz, hc, hf⟩ := bst (w0 := wa) (by go_grown) hb; clear hb hz hc hf hz0) | (go_at_call 57; (with_reducible refine (sNamedRel_any _ _).mono ?_); rintro e w' ⟨rfl, rfl⟩; simp only [E.out]) | fail)
        refine (DrawBasicOf_any _ _ _ _ _ (W1.out.below (by go_grown))).mono ?_
        rintro e wb ⟨a, b, c, d, rfl, hb⟩
        have HBb : Below wa.heap.size wa wb := (bst (w0 := wa) (by go_grown) hb).1
        have HT2 := hid (HT.out.below HBb)
        have Hb2 := hid (Hb.out.trans (HBb.mono Hb.out.size))
        clear hb HBb W1 HT Hb HN E
        try clear HB
        have HS := AllLt.start wb
        have hn2 := lt2
        have hn3 := lt3
        cases h1 : iv a b
        · have H1 := hid h1
          clear h1
          go_wp2_with (first | (go_at_call 37; (with_reducible refine (iIntervalValid_any a b _).mono ?_); rintro e w' ⟨rfl, hb⟩; rw [H1.out]; obtain ⟨HB, hz0, hz, hc, hf⟩ := bst (w0 := wb) (by go_grown) hb; clear hb; (try simp at hz); (first | ((refine HS.g5 (m := w'.heap.size) ?_ ?_); (focus omega); intro HS) | ((refine HS.g4 (m := w'.heap.size) ?_ ?_); (focus omega); intro HS) | ((refine HS.g3 (m := w'.heap.size) ?_ ?_); (focus omega); intro HS) | ((refine HS.g2 (m := w'.heap.size) ?_ ?_); (focus omega); intro HS) | ((refine HS.g1 (m := w'.heap.size) ?_ ?_); (focus omega); intro HS) | ((refine HS.g0 (m := w'.heap.size) ?_ ?_); (focus omega); intro HS)); have HU := HS; simp only [AllLt] at HU) | fail)
          go_ret
          exact ⟨ret_bool (by first | rfl | (rw [HM.out]; rfl) | (simp [HM.out]; done) | (simp; done) | (simp [*]; done) | (simp [*]; omega)), Hb2.out.trans (Below.mono (by (repeat' (first | (with_reducible exact Below.refl _ _) | (with_reducible refine Below.setCell ?_ ?_ _) | (with_reducible refine below_drewN' ?_ _) | (with_reducible refine below_drew' ?_) | (with_reducible refine Below.alloc ?_ ?_ _) | (with_reducible assumption) | go_size))) Hb2.out.size)⟩
        · cases h2 : iv c d
          · by_cases heq : a = c ∧ b = d
            · exfalso; obtain ⟨rfl, rfl⟩ := heq; exact Bool.noConfusion (h1.symm.trans h2)
            · have H1 := hid h1
              have H2 := hid h2
              clear h1 h2 heq
              go_wp2_with (first | (go_at_call 37; (with_reducible refine (iIntervalValid_any a b _).mono ?_); rintro e w' ⟨rfl, hb⟩; rw [H1.out]; obtain ⟨HB, hz0, hz, hc, hf⟩ := bst (w0 := wb) (by go_grown) hb; clear hb; (try simp at hz); (first | ((refine HS.g5 (m := w'.heap.size) ?_ ?_); (focus omega); intro HS) | ((refine HS.g4 (m := w'.heap.size) ?_ ?_); (focus omega); intro HS) | ((refine HS.g3 (m := w'.heap.size) ?_ ?_); (focus omega); intro HS) | ((refine HS.g2 (m := w'.heap.size) ?_ ?_); (focus omega); intro HS) | ((refine HS.g1 (m := w'.heap.size) ?_ ?_); (focus omega); intro HS) | ((refine HS.g0 (m := w'.heap.size) ?_ ?_); (focus omega); intro HS)); have HU := HS; simp only [AllLt] at HU) | (go_at_call 37; (with_reducible refine (iIntervalValid_any c d _).mono ?_); rintro e w' ⟨rfl, hb⟩; rw [H2.out]; obtain ⟨HB, hz0, hz, hc, hf⟩ := bst (w0 := wb) (by go_grown) hb; clear hb; (try simp at hz); (first | ((refine HS.g5 (m := w'.heap.size) ?_ ?_); (focus omega); intro HS) | ((refine HS.g4 (m := w'.heap.size) ?_ ?_); (focus omega); intro HS) | ((refine HS.g3 (m := w'.heap.size) ?_ ?_); (focus omega); intro HS) | ((refine HS.g2 (m := w'.heap.size) ?_ ?_); (focus omega); intro HS) | ((refine HS.g1 (m := w'.heap.size) ?_ ?_); (focus omega); intro HS) | ((refine HS.g0 (m := w'.heap.size) ?_ ?_); (focus omega); intro HS)); have HU := HS; simp only [AllLt] at HU) | fail)
              go_ret
              exact ⟨ret_bool (by first | rfl | exact HMM.out | (rw [HMM.out]; rfl) | (rw [HM.out]; rfl) | (simp [HM.out]; done) | (simp; done) | (simp [*]; done) | (simp [*]; omega)), Hb2.out.trans (Below.mono (by (repeat' (first | (with_reducible exact Below.refl _ _) | (with_reducible refine Below.setCell ?_ ?_ _) | (with_reducible refine below_drewN' ?_ _) | (with_reducible refine below_drew' ?_) | (with_reducible refine Below.alloc ?_ ?_ _) | (with_reducible assumption) | go_size))) Hb2.out.size)⟩
          · obtain ⟨t0, t1, t2, t3, t4, t5, t6, t7⟩ := nm_rel h1 h2
            have H1 := hid h1
            have H2 := hid h2
            have HM := hid (Eq.refl (mtB a b c d))
            clear h1 h2
            cases hm : mtB a b c d
            all_goals
              rw [hm] at t2
              have HMM := hid hm
              have HRB := hid t2
              clear t0 t1 t2 t3 t4 t5 t6 t7 hm
              go_wp2_with (first | (go_at_call 37; (with_reducible refine (iIntervalValid_any a b _).mono ?_); rintro e w' ⟨rfl, hb⟩; rw [H1.out]; obtain ⟨HB, hz0, hz, hc, hf⟩ := bst (w0 := wb) (by go_grown) hb; clear hb; (try simp at hz); (first | ((refine HS.g5 (m := w'.heap.size) ?_ ?_); (focus omega); intro HS) | ((refine HS.g4 (m := w'.heap.size) ?_ ?_); (focus omega); intro HS) | ((refine HS.g3 (m := w'.heap.size) ?_ ?_); (focus omega); intro HS) | ((refine HS.g2 (m := w'.heap.size) ?_ ?_); (focus omega); intro HS) | ((refine HS.g1 (m := w'.heap.size) ?_ ?_); (focus omega); intro HS) | ((refine HS.g0 (m := w'.heap.size) ?_ ?_); (focus omega); intro HS)); have HU := HS; simp only [AllLt] at HU) | (go_at_call 37; (with_reducible refine (iIntervalValid_any c d _).mono ?_); rintro e w' ⟨rfl, hb⟩; rw [H2.out]; obtain ⟨HB, hz0, hz, hc, hf⟩ := bst (w0 := wb) (by go_grown) hb; clear hb; (try simp at hz); (first | ((refine HS.g5 (m := w'.heap.size) ?_ ?_); (focus omega); intro HS) | ((refine HS.g4 (m := w'.heap.size) ?_ ?_); (focus omega); intro HS) | ((refine HS.g3 (m := w'.heap.size) ?_ ?_); (focus omega); intro HS) | ((refine HS.g2 (m := w'.heap.size) ?_ ?_); (focus omega); intro HS) | ((refine HS.g1 (m := w'.heap.size) ?_ ?_); (focus omega); intro HS) | ((refine HS.g0 (m := w'.heap.size) ?_ ?_); (focus omega); intro HS)); have HU := HS; simp only [AllLt] at HU) | (go_at_call 54; (with_reducible refine (iRelHolds_any _ a b c d _ (HT2.out.below (by go_grown))).mono ?_); rintro e w' ⟨rfl, hb⟩; rw [HRB.out]; obtain ⟨HB, hz0, hz, hc, hf⟩ := bst (w0 := wb) (by go_grown) hb; clear hb; (try simp at hz); (first | ((refine HS.g5 (m := w'.heap.size) ?_ ?_); (focus omega); intro HS) | ((refine HS.g4 (m := w'.heap.size) ?_ ?_); (focus omega); intro HS) | ((refine HS.g3 (m := w'.heap.size) ?_ ?_); (focus omega); intro HS) | ((refine HS.g2 (m := w'.heap.size) ?_ ?_); (focus omega); intro HS) | ((refine HS.g1 (m := w'.heap.size) ?_ ?_); (focus omega); intro HS) | ((refine HS.g0 (m := w'.heap.size) ?_ ?_); (focus omega); intro HS)); have HU := HS; simp only [AllLt] at HU) | (go_at_call 58; (with_reducible refine (iMeetOf_any a b c d _).mono ?_); rintro e w' ⟨rfl, hb⟩; (try rw [HM.out]); obtain ⟨HB, hz0, hz, hc, hf⟩ := bst (w0 := wb) (by go_grown) hb; clear hb; (try simp at hz); (first | ((refine HS.g5 (m := w'.heap.size) ?_ ?_); (focus omega); intro HS) | ((refine HS.g4 (m := w'.heap.size) ?_ ?_); (focus omega); intro HS) | ((refine HS.g3 (m := w'.heap.size) ?_ ?_); (focus omega); intro HS) | ((refine HS.g2 (m := w'.heap.size) ?_ ?_); (focus omega); intro HS) | ((refine HS.g1 (m := w'.heap.size) ?_ ?_); (focus omega); intro HS) | ((refine HS.g0 (m := w'.heap.size) ?_ ?_); (focus omega); intro HS)); have HU := HS; simp only [AllLt] at HU) | fail)
              go_ret
              exact ⟨ret_bool (by first | rfl | exact HMM.out | (rw [HMM.out]; rfl) | (rw [HM.out]; rfl) | (simp [HM.out]; done) | (simp; done) | (simp [*]; done) | (simp [*]; omega)), Hb2.out.trans (Below.mono (by (repeat' (first | (with_reducible exact Below.refl _ _) | (with_reducible refine Below.setCell ?_ ?_ _) | (with_reducible refine below_drewN' ?_ _) | (with_reducible refine below_drew' ?_) | (with_reducible refine Below.alloc ?_ ?_ _) | (with_reducible assumption) | go_size))) Hb2.out.size)⟩
      · have E := hid (show nmI ⟨#[99, 111, 109, 109, 111, 110]⟩ = (2044, true) by decide +kernel)
        go_wp2_with (first | (go_at_call 56; (with_reducible refine (iNamedRel_any _ _ (HT.out.below (by go_grown)) (HN.out.below (by go_grown))).mono ?_); rintro e w' ⟨rfl, hb⟩; simp only [E.out]; obtain ⟨HB, hz0, hz, hc, hf⟩ := bst (w0 := wa) (by go_grown) hb; clear hb hz hc hf hz0) | (go_at_call 57; (with_reducible refine (sNamedRel_any _ _).mono ?_); rintro e w' ⟨rfl, rfl⟩; simp only [E.out]) | fail)
        refine (DrawBasicOf_any _ _ _ _ _ (W1.out.below (by go_grown))).mono ?_
        rintro e wb ⟨a, b, c, d, rfl, hb⟩
        have HBb : Below wa.heap.size wa wb := (bst (w0 := wa) (by go_grown) hb).1
        have HT2 := hid (HT.out.below HBb)
        have Hb2 := hid (Hb.out.trans (HBb.mono Hb.out.size))
        clear hb HBb W1 HT Hb HN E
        try clear HB
        have HS := AllLt.start wb
        have hn2 := lt2
        have hn3 := lt3
        cases h1 : iv a b
        · have H1 := hid h1
          clear h1
          go_wp2_with (first | (go_at_call 37; (with_reducible refine (iIntervalValid_any a b _).mono ?_); rintro e w' ⟨rfl, hb⟩; rw [H1.out]; obtain ⟨HB, hz0, hz, hc, hf⟩ := bst (w0 := wb) (by go_grown) hb; clear hb; (try simp at hz); (first | ((refine HS.g5 (m := w'.heap.size) ?_ ?_); (focus omega); intro HS) | ((refine HS.g4 (m := w'.heap.size) ?_ ?_); (focus omega); intro HS) | ((refine HS.g3 (m := w'.heap.size) ?_ ?_); (focus omega); intro HS) | ((refine HS.g2 (m := w'.heap.size) ?_ ?_); (focus omega); intro HS) | ((refine HS.g1 (m := w'.heap.size) ?_ ?_); (focus omega); intro HS) | ((refine HS.g0 (m := w'.heap.size) ?_ ?_); (focus omega); intro HS)); have HU := HS; simp only [AllLt] at HU) | fail)
          go_ret
          exact ⟨ret_bool (by first | rfl | (rw [HM.out]; rfl) | (simp [HM.out]; done) | (simp; done) | (simp [*]; done) | (simp [*]; omega)), Hb2.out.trans (Below.mono (by (repeat' (first | (with_reducible exact Below.refl _ _) | (with_reducible refine Below.setCell ?_ ?_ _) | (with_reducible refine below_drewN' ?_ _) | (with_reducible refine below_drew' ?_) | (with_reducible refine Below.alloc ?_ ?_ _) | (with_reducible assumption) | go_size))) Hb2.out.size)⟩
        · cases h2 : iv c d
          · by_cases heq : a = c ∧ b = d
            · exfalso; obtain ⟨rfl, rfl⟩ := heq; exact Bool.noConfusion (h1.symm.trans h2)
            · have H1 := hid h1
              have H2 := hid h2
              clear h1 h2 heq
              go_wp2_with (first | (go_at_call 37; (with_reducible refine (iIntervalValid_any a b _).mono ?_); rintro e w' ⟨rfl, hb⟩; rw [H1.out]; obtain ⟨HB, hz0, hz, hc, hf⟩ := bst (w0 := wb) (by go_grown) hb; clear hb; (try simp at hz); (first | ((refine HS.g5 (m := w'.heap.size) ?_ ?_); (focus omega); intro HS) | ((refine HS.g4 (m := w'.heap.size) ?_ ?_); (focus omega); intro HS) | ((refine HS.g3 (m := w'.heap.size) ?_ ?_); (focus omega); intro HS) | ((refine HS.g2 (m := w'.heap.size) ?_ ?_); (focus omega); intro HS) | ((refine HS.g1 (m := w'.heap.size) ?_ ?_); (focus omega); intro HS) | ((refine HS.g0 (m := w'.heap.size) ?_ ?_); (focus omega); intro HS)); have HU := HS; simp only [AllLt] at HU) | (go_at_call 37; (with_reducible refine (iIntervalValid_any c d _).mono ?_); rintro e w' ⟨rfl, hb⟩; rw [H2.out]; obtain ⟨HB, hz0, hz, hc, hf⟩ := bst (w0 := wb) (by go_grown) hb; clear hb; (try simp at hz); (first | ((refine HS.g5 (m := w'.heap.size) ?_ ?_); (focus omega); intro HS) | ((refine HS.g4 (m := w'.heap.size) ?_ ?_); (focus omega); intro HS) | ((refine HS.g3 (m := w'.heap.size) ?_ ?_); (focus omega); intro HS) | ((refine HS.g2 (m := w'.heap.size) ?_ ?_); (focus omega); intro HS) | ((refine HS.g1 (m := w'.heap.size) ?_ ?_); (focus omega); intro HS) | ((refine HS.g0 (m := w'.heap.size) ?_ ?_); (focus omega); intro HS)); have HU := HS; simp only [AllLt] at HU) | fail)
              go_ret
              exact ⟨ret_bool (by first | rfl | exact HMM.out | (rw [HMM.out]; rfl) | (rw [HM.out]; rfl) | (simp [HM.out]; done) | (simp; done) | (simp [*]; done) | (simp [*]; omega)), Hb2.out.trans (Below.mono (by (repeat' (first | (with_reducible exact Below.refl _ _) | (with_reducible refine Below.setCell ?_ ?_ _) | (with_reducible refine below_drewN' ?_ _) | (with_reducible refine below_drew' ?_) | (with_reducible refine Below.alloc ?_ ?_ _) | (with_reducible assumption) | go_size))) Hb2.out.size)⟩
          · obtain ⟨t0, t1, t2, t3, t4, t5, t6, t7⟩ := nm_rel h1 h2
            have H1 := hid h1
            have H2 := hid h2
            have HM := hid (Eq.refl (mtB a b c d))
            clear h1 h2
            cases hm : mtB a b c d
            all_goals
              rw [hm] at t3
              have HMM := hid hm
              have HRB := hid t3
              clear t0 t1 t2 t3 t4 t5 t6 t7 hm
              go_wp2_with (first | (go_at_call 37; (with_reducible refine (iIntervalValid_any a b _).mono ?_); rintro e w' ⟨rfl, hb⟩; rw [H1.out]; obtain ⟨HB, hz0, hz, hc, hf⟩ := bst (w0 := wb) (by go_grown) hb; clear hb; (try simp at hz); (first | ((refine HS.g5 (m := w'.heap.size) ?_ ?_); (focus omega); intro HS) | ((refine HS.g4 (m := w'.heap.size) ?_ ?_); (focus omega); intro HS) | ((refine HS.g3 (m := w'.heap.size) ?_ ?_); (focus omega); intro HS) | ((refine HS.g2 (m := w'.heap.size) ?_ ?_); (focus omega); intro HS) | ((refine HS.g1 (m := w'.heap.size) ?_ ?_); (focus omega); intro HS) | ((refine HS.g0 (m := w'.heap.size) ?_ ?_); (focus omega); intro HS)); have HU := HS; simp only [AllLt] at HU) | (go_at_call 37; (with_reducible refine (iIntervalValid_any c d _).mono ?_); rintro e w' ⟨rfl, hb⟩; rw [H2.out]; obtain ⟨HB, hz0, hz, hc, hf⟩ := bst (w0 := wb) (by go_grown) hb; clear hb; (try simp at hz); (first | ((refine HS.g5 (m := w'.heap.size) ?_ ?_); (focus omega); intro HS) | ((refine HS.g4 (m := w'.heap.size) ?_ ?_); (focus omega); intro HS) | ((refine HS.g3 (m := w'.heap.size) ?_ ?_); (focus omega); intro HS) | ((refine HS.g2 (m := w'.heap.size) ?_ ?_); (focus omega); intro HS) | ((refine HS.g1 (m := w'.heap.size) ?_ ?_); (focus omega); intro HS) | ((refine HS.g0 (m := w'.heap.size) ?_ ?_); (focus omega); intro HS)); have HU := HS; simp only [AllLt] at HU) | (go_at_call 54; (with_reducible refine (iRelHolds_any _ a b c d _ (HT2.out.below (by go_grown))).mono ?_); rintro e w' ⟨rfl, hb⟩; rw [HRB.out]; obtain ⟨HB, hz0, hz, hc, hf⟩ := bst (w0 := wb) (by go_grown) hb; clear hb; (try simp at hz); (first | ((refine HS.g5 (m := w'.heap.size) ?_ ?_); (focus omega); intro HS) | ((refine HS.g4 (m := w'.heap.size) ?_ ?_); (focus omega); intro HS) | ((refine HS.g3 (m := w'.heap.size) ?_ ?_); (focus omega); intro HS) | ((refine HS.g2 (m := w'.heap.size) ?_ ?_); (focus omega); intro HS) | ((refine HS.g1 (m := w'.heap.size) ?_ ?_); (focus omega); intro HS) | ((refine HS.g0 (m := w'.heap.size) ?_ ?_); (focus omega); intro HS)); have HU := HS; simp only [AllLt] at HU) | (go_at_call 58; (with_reducible refine (iMeetOf_any a b c d _).mono ?_); rintro e w' ⟨rfl, hb⟩; (try rw [HM.out]); obtain ⟨HB, hz0, hz, hc, hf⟩ := bst (w0 := wb) (by go_grown) hb; clear hb; (try simp at hz); (first | ((refine HS.g5 (m := w'.heap.size) ?_ ?_); (focus omega); intro HS) | ((refine HS.g4 (m := w'.heap.size) ?_ ?_); (focus omega); intro HS) | ((refine HS.g3 (m := w'.heap.size) ?_ ?_); (focus omega); intro HS) | ((refine HS.g2 (m := w'.heap.size) ?_ ?_); (focus omega); intro HS) | ((refine HS.g1 (m := w'.heap.size) ?_ ?_); (focus omega); intro HS) | ((refine HS.g0 (m := w'.heap.size) ?_ ?_); (focus omega); intro HS)); have HU := HS; simp only [AllLt] at HU) | fail)
              go_ret
              exact ⟨ret_bool (by first | rfl | exact HMM.out | (rw [HMM.out]; rfl) | (rw [HM.out]; rfl) | (simp [HM.out]; done) | (simp; done) | (simp [*]; done) | (simp [*]; omega)), Hb2.out.trans (Below.mono (by (repeat' (first | (with_reducible exact Below.refl _ _) | (with_reducible refine Below.setCell ?_ ?_ _) | (with_reducible refine below_drewN' ?_ _) | (with_reducible refine below_drew' ?_) | (with_reducible refine Below.alloc ?_ ?_ _) | (with_reducible assumption) | go_size))) Hb2.out.size)⟩
      · have E := hid (show nmI ⟨#[119, 105, 116, 104, 105, 110]⟩ = (120, true) by decide +kernel)
        go_wp2_with (first | (go_at_call 56; (with_reducible refine (iNamedRel_any _ _ (HT.out.below (by go_grown)) (HN.out.below (by go_grown))).mono ?_); rintro e w' ⟨rfl, hb⟩; simp only [E.out]; obtain ⟨HB, hz0, hz, hc, hf⟩ := bst (w0 := wa) (by go_grown) hb; clear hb hz hc hf hz0) | (go_at_call 57; (with_reducible refine (sNamedRel_any _ _).mono ?_); rintro e w' ⟨rfl, rfl⟩; simp only [E.out]) | fail)
        refine (DrawBasicOf_any _ _ _ _ _ (W1.out.below (by go_grown))).mono ?_
        rintro e wb ⟨a, b, c, d, rfl, hb⟩
        have HBb : Below wa.heap.size wa wb := (bst (w0 := wa) (by go_grown) hb).1
        have HT2 := hid (HT.out.below HBb)
        have Hb2 := hid (Hb.out.trans (HBb.mono Hb.out.size))
        clear hb HBb W1 HT Hb HN E
        try clear HB
        have HS := AllLt.start wb
        have hn2 := lt2
        have hn3 := lt3
        cases h1 : iv a b
        · have H1 := hid h1
          clear h1
          go_wp2_with (first | (go_at_call 37; (with_reducible refine (iIntervalValid_any a b _).mono ?_); rintro e w' ⟨rfl, hb⟩; rw [H1.out]; obtain ⟨HB, hz0, hz, hc, hf⟩ := bst (w0 := wb) (by go_grown) hb; clear hb; (try simp at hz); (first | ((refine HS.g5 (m := w'.heap.size) ?_ ?_); (focus omega); intro HS) | ((refine HS.g4 (m := w'.heap.size) ?_ ?_); (focus omega); intro HS) | ((refine HS.g3 (m := w'.heap.size) ?_ ?_); (focus omega); intro HS) | ((refine HS.g2 (m := w'.heap.size) ?_ ?_); (focus omega); intro HS) | ((refine HS.g1 (m := w'.heap.size) ?_ ?_); (focus omega); intro HS) | ((refine HS.g0 (m := w'.heap.size) ?_ ?_); (focus omega); intro HS)); have HU := HS; simp only [AllLt] at HU) | fail)
          go_ret
          exact ⟨ret_bool (by first | rfl | (rw [HM.out]; rfl) | (simp [HM.out]; done) | (simp; done) | (simp [*]; done) | (simp [*]; omega)), Hb2.out.trans (Below.mono (by (repeat' (first | (with_reducible exact Below.refl _ _) | (with_reducible refine Below.setCell ?_ ?_ _) | (with_reducible refine below_drewN' ?_ _) | (with_reducible refine below_drew' ?_) | (with_reducible refine Below.alloc ?_ ?_ _) | (with_reducible assumption) | go_size))) Hb2.out.size)⟩
        · cases h2 : iv c d
          · by_cases heq : a = c ∧ b = d
            · exfalso; obtain ⟨rfl, rfl⟩ := heq; exact Bool.noConfusion (h1.symm.trans h2)
            · have H1 := hid h1
              have H2 := hid h2
              clear h1 h2 heq
              go_wp2_with (first | (go_at_call 37; (with_reducible refine (iIntervalValid_any a b _).mono ?_); rintro e w' ⟨rfl, hb⟩; rw [H1.out]; obtain ⟨HB, hz0, hz, hc, hf⟩ := bst (w0 := wb) (by go_grown) hb; clear hb; (try simp at hz); (first | ((refine HS.g5 (m := w'.heap.size) ?_ ?_); (focus omega); intro HS) | ((refine HS.g4 (m := w'.heap.size) ?_ ?_); (focus omega); intro HS) | ((refine HS.g3 (m := w'.heap.size) ?_ ?_); (focus omega); intro HS) | ((refine HS.g2 (m := w'.heap.size) ?_ ?_); (focus omega); intro HS) | ((refine HS.g1 (m := w'.heap.size) ?_ ?_); (focus omega); intro HS) | ((refine HS.g0 (m := w'.heap.size) ?_ ?_); (focus omega); intro HS)); have HU := HS; simp only [AllLt] at HU) | (go_at_call 37; (with_reducible refine (iIntervalValid_any c d _).mono ?_); rintro e w' ⟨rfl, hb⟩; rw [H2.out]; obtain ⟨HB, hz0, hz, hc, hf⟩ := bst (w0 := wb) (by go_grown) hb; clear hb; (try simp at hz); (first | ((refine HS.g5 (m := w'.heap.size) ?_ ?_); (focus omega); intro HS) | ((refine HS.g4 (m := w'.heap.size) ?_ ?_); (focus omega); intro HS) | ((refine HS.g3 (m := w'.heap.size) ?_ ?_); (focus omega); intro HS) | ((refine HS.g2 (m := w'.heap.size) ?_ ?_); (focus omega); intro HS) | ((refine HS.g1 (m := w'.heap.size) ?_ ?_); (focus omega); intro HS) | ((refine HS.g0 (m := w'.heap.size) ?_ ?_); (focus omega); intro HS)); have HU := HS; simp only [AllLt] at HU) | fail)
              go_ret
              exact ⟨ret_bool (by first | rfl | exact HMM.out | (rw [HMM.out]; rfl) | (rw [HM.out]; rfl) | (simp [HM.out]; done) | (simp; done) | (simp [*]; done) | (simp [*]; omega)), Hb2.out.trans (Below.mono (by (repeat' (first | (with_reducible exact Below.refl _ _) | (with_reducible refine Below.setCell ?_ ?_ _) | (with_reducible refine below_drewN' ?_ _) | (with_reducible refine below_drew' ?_) | (with_reducible refine Below.alloc ?_ ?_ _) | (with_reducible assumption) | go_size))) Hb2.out.size)⟩
          · obtain ⟨t0, t1, t2, t3, t4, t5, t6, t7⟩ := nm_rel h1 h2
            have H1 := hid h1
            have H2 := hid h2
            have HM := hid (Eq.refl (mtB a b c d))
            clear h1 h2
            by_cases g1 : c ≤ a <;> by_cases g2 : b ≤ d
            all_goals
              simp only [g1, g2, decide_true, decide_false, Bool.and_true, Bool.and_false, Bool.true_and, Bool.false_and] at t4
              have HRB := hid t4
              clear t0 t1 t2 t3 t4 t5 t6 t7
              go_wp2_with (first | (go_at_call 37; (with_reducible refine (iIntervalValid_any a b _).mono ?_); rintro e w' ⟨rfl, hb⟩; rw [H1.out]; obtain ⟨HB, hz0, hz, hc, hf⟩ := bst (w0 := wb) (by go_grown) hb; clear hb; (try simp at hz); (first | ((refine HS.g5 (m := w'.heap.size) ?_ ?_); (focus omega); intro HS) | ((refine HS.g4 (m := w'.heap.size) ?_ ?_); (focus omega); intro HS) | ((refine HS.g3 (m := w'.heap.size) ?_ ?_); (focus omega); intro HS) | ((refine HS.g2 (m := w'.heap.size) ?_ ?_); (focus omega); intro HS) | ((refine HS.g1 (m := w'.heap.size) ?_ ?_); (focus omega); intro HS) | ((refine HS.g0 (m := w'.heap.size) ?_ ?_); (focus omega); intro HS)); have HU := HS; simp only [AllLt] at HU) | (go_at_call 37; (with_reducible refine (iIntervalValid_any c d _).mono ?_); rintro e w' ⟨rfl, hb⟩; rw [H2.out]; obtain ⟨HB, hz0, hz, hc, hf⟩ := bst (w0 := wb) (by go_grown) hb; clear hb; (try simp at hz); (first | ((refine HS.g5 (m := w'.heap.size) ?_ ?_); (focus omega); intro HS) | ((refine HS.g4 (m := w'.heap.size) ?_ ?_); (focus omega); intro HS) | ((refine HS.g3 (m := w'.heap.size) ?_ ?_); (focus omega); intro HS) | ((refine HS.g2 (m := w'.heap.size) ?_ ?_); (focus omega); intro HS) | ((refine HS.g1 (m := w'.heap.size) ?_ ?_); (focus omega); intro HS) | ((refine HS.g0 (m := w'.heap.size) ?_ ?_); (focus omega); intro HS)); have HU := HS; simp only [AllLt] at HU) | (go_at_call 54; (with_reducible refine (iRelHolds_any _ a b c d _ (HT2.out.below (by go_grown))).mono ?_); rintro e w' ⟨rfl, hb⟩; rw [HRB.out]; obtain ⟨HB, hz0, hz, hc, hf⟩ := bst (w0 := wb) (by go_grown) hb; clear hb; (try simp at hz); (first | ((refine HS.g5 (m := w'.heap.size) ?_ ?_); (focus omega); intro HS) | ((refine HS.g4 (m := w'.heap.size) ?_ ?_); (focus omega); intro HS) | ((refine HS.g3 (m := w'.heap.size) ?_ ?_); (focus omega); intro HS) | ((refine HS.g2 (m := w'.heap.size) ?_ ?_); (focus omega); intro HS) | ((refine HS.g1 (m := w'.heap.size) ?_ ?_); (focus omega); intro HS) | ((refine HS.g0 (m := w'.heap.size) ?_ ?_); (focus omega); intro HS)); have HU := HS; simp only [AllLt] at HU) | (go_at_call 58; (with_reducible refine (iMeetOf_any a b c d _).mono ?_); rintro e w' ⟨rfl, hb⟩; (try rw [HM.out]); obtain ⟨HB, hz0, hz, hc, hf⟩ := bst (w0 := wb) (by go_grown) hb; clear hb; (try simp at hz); (first | ((refine HS.g5 (m := w'.heap.size) ?_ ?_); (focus omega); intro HS) | ((refine HS.g4 (m := w'.heap.size) ?_ ?_); (focus omega); intro HS) | ((refine HS.g3 (m := w'.heap.size) ?_ ?_); (focus omega); intro HS) | ((refine HS.g2 (m := w'.heap.size) ?_ ?_); (focus omega); intro HS) | ((refine HS.g1 (m := w'.heap.size) ?_ ?_); (focus omega); intro HS) | ((refine HS.g0 (m := w'.heap.size) ?_ ?_); (focus omega); intro HS)); have HU := HS; simp only [AllLt] at HU) | fail)
              go_ret
              exact ⟨ret_bool (by first | rfl | exact HMM.out | (rw [HMM.out]; rfl) | (rw [HM.out]; rfl) | (simp [HM.out]; done) | (simp; done) | (simp [*]; done) | (simp [*]; omega)), Hb2.out.trans (Below.mono (by (repeat' (first | (with_reducible exact Below.refl _ _) | (with_reducible refine Below.setCell ?_ ?_ _) | (with_reducible refine below_drewN' ?_ _) | (with_reducible refine below_drew' ?_) | (with_reducible refine Below.alloc ?_ ?_ _) | (with_reducible assumption) | go_size))) Hb2.out.size)⟩
      · have E := hid (show nmI ⟨#[98, 101, 103, 105, 110, 115]⟩ = (584, true) by decide +kernel)
        go_wp2_with (first | (go_at_call 56; (with_reducible refine (iNamedRel_any _ _ (HT.out.below (by go_grown)) (HN.out.below (by go_grown))).mono ?_); rintro e w' ⟨rfl, hb⟩; simp only [E.out]; obtain ⟨HB, hz0, hz, hc, hf⟩ := bst (w0 := wa) (by go_grown) hb; clear hb hz hc hf hz0) | (go_at_call 57; (with_reducible refine (sNamedRel_any _ _).mono ?_); rintro e w' ⟨rfl, rfl⟩; simp only [E.out]) | fail)
        refine (DrawBasicOf_any _ _ _ _ _ (W1.out.below (by go_grown))).mono ?_
        rintro e wb ⟨a, b, c, d, rfl, hb⟩
        have HBb : Below wa.heap.size wa wb := (bst (w0 := wa) (by go_grown) hb).1
        have HT2 := hid (HT.out.below HBb)
        have Hb2 := hid (Hb.out.trans (HBb.mono Hb.out.size))
        clear hb HBb W1 HT Hb HN E
        try clear HB
        have HS := AllLt.start wb
        have hn2 := lt2
        have hn3 := lt3
        cases h1 : iv a b
        · have H1 := hid h1
          clear h1
          go_wp2_with (first | (go_at_call 37; (with_reducible refine (iIntervalValid_any a b _).mono ?_); rintro e w' ⟨rfl, hb⟩; rw [H1.out]; obtain ⟨HB, hz0, hz, hc, hf⟩ := bst (w0 := wb) (by go_grown) hb; clear hb; (try simp at hz); (first | ((refine HS.g5 (m := w'.heap.size) ?_ ?_); (focus omega); intro HS) | ((refine HS.g4 (m := w'.heap.size) ?_ ?_); (focus omega); intro HS) | ((refine HS.g3 (m := w'.heap.size) ?_ ?_); (focus omega); intro HS) | ((refine HS.g2 (m := w'.heap.size) ?_ ?_); (focus omega); intro HS) | ((refine HS.g1 (m := w'.heap.size) ?_ ?_); (focus omega); intro HS) | ((refine HS.g0 (m := w'.heap.size) ?_ ?_); (focus omega); intro HS)); have HU := HS; simp only [AllLt] at HU) | fail)
          go_ret
          exact ⟨ret_bool (by first | rfl | (rw [HM.out]; rfl) | (simp [HM.out]; done) | (simp; done) | (simp [*]; done) | (simp [*]; omega)), Hb2.out.trans (Below.mono (by (repeat' (first | (with_reducible exact Below.refl _ _) | (with_reducible refine Below.setCell ?_ ?_ _) | (with_reducible refine below_drewN' ?_ _) | (with_reducible refine below_drew' ?_) | (with_reducible refine Below.alloc ?_ ?_ _) | (with_reducible assumption) | go_size))) Hb2.out.size)⟩
        · cases h2 : iv c d
          · by_cases heq : a = c ∧ b = d
            · exfalso; obtain ⟨rfl, rfl⟩ := heq; exact Bool.noConfusion (h1.symm.trans h2)
            · have H1 := hid h1
              have H2 := hid h2
              clear h1 h2 heq
              go_wp2_with (first | (go_at_call 37; (with_reducible refine (iIntervalValid_any a b _).mono ?_); rintro e w' ⟨rfl, hb⟩; rw [H1.out]; obtain ⟨HB, hz0, hz, hc, hf⟩ := bst (w0 := wb) (by go_grown) hb; clear hb; (try simp at hz); (first | ((refine HS.g5 (m := w'.heap.size) ?_ ?_); (focus omega); intro HS) | ((refine HS.g4 (m := w'.heap.size) ?_ ?_); (focus omega); intro HS) | ((refine HS.g3 (m := w'.heap.size) ?_ ?_); (focus omega); intro HS) | ((refine HS.g2 (m := w'.heap.size) ?_ ?_); (focus omega); intro HS) | ((refine HS.g1 (m := w'.heap.size) ?_ ?_); (focus omega); intro HS) | ((refine HS.g0 (m := w'.heap.size) ?_ ?_); (focus omega); intro HS)); have HU := HS; simp only [AllLt] at HU) | (go_at_call 37; (with_reducible refine (iIntervalValid_any c d _).mono ?_); rintro e w' ⟨rfl, hb⟩; rw [H2.out]; obtain ⟨HB, hz0, hz, hc, hf⟩ := bst (w0 := wb) (by go_grown) hb; clear hb; (try simp at hz); (first | ((refine HS.g5 (m := w'.heap.size) ?_ ?_); (focus omega); intro HS) | ((refine HS.g4 (m := w'.heap.size) ?_ ?_); (focus omega); intro HS) | ((refine HS.g3 (m := w'.heap.size) ?_ ?_); (focus omega); intro HS) | ((refine HS.g2 (m := w'.heap.size) ?_ ?_); (focus omega); intro HS) | ((refine HS.g1 (m := w'.heap.size) ?_ ?_); (focus omega); intro HS) | ((refine HS.g0 (m := w'.heap.size) ?_ ?_); (focus omega); intro HS)); have HU := HS; simp only [AllLt] at HU) | fail)
              go_ret
              exact ⟨ret_bool (by first | rfl | exact HMM.out | (rw [HMM.out]; rfl) | (rw [HM.out]; rfl) | (simp [HM.out]; done) | (simp; done) | (simp [*]; done) | (simp [*]; omega)), Hb2.out.trans (Below.mono (by (repeat' (first | (with_reducible exact Below.refl _ _) | (with_reducible refine Below.setCell ?_ ?_ _) | (with_reducible refine below_drewN' ?_ _) | (with_reducible refine below_drew' ?_) | (with_reducible refine Below.alloc ?_ ?_ _) | (with_reducible assumption) | go_size))) Hb2.out.size)⟩
          · obtain ⟨t0, t1, t2, t3, t4, t5, t6, t7⟩ := nm_rel h1 h2
            have H1 := hid h1
            have H2 := hid h2
            have HM := hid (Eq.refl (mtB a b c d))
            clear h1 h2
            by_cases g1 : a = c
            · subst g1
              simp only [decide_true] at t5
              have HRB := hid t5
              clear t0 t1 t2 t3 t4 t5 t6 t7
              go_wp2_with (first | (go_at_call 37; (with_reducible refine (iIntervalValid_any a b _).mono ?_); rintro e w' ⟨rfl, hb⟩; rw [H1.out]; obtain ⟨HB, hz0, hz, hc, hf⟩ := bst (w0 := wb) (by go_grown) hb; clear hb; (try simp at hz); (first | ((refine HS.g5 (m := w'.heap.size) ?_ ?_); (focus omega); intro HS) | ((refine HS.g4 (m := w'.heap.size) ?_ ?_); (focus omega); intro HS) | ((refine HS.g3 (m := w'.heap.size) ?_ ?_); (focus omega); intro HS) | ((refine HS.g2 (m := w'.heap.size) ?_ ?_); (focus omega); intro HS) | ((refine HS.g1 (m := w'.heap.size) ?_ ?_); (focus omega); intro HS) | ((refine HS.g0 (m := w'.heap.size) ?_ ?_); (focus omega); intro HS)); have HU := HS; simp only [AllLt] at HU) | (go_at_call 37; (with_reducible refine (iIntervalValid_any a d _).mono ?_); rintro e w' ⟨rfl, hb⟩; rw [H2.out]; obtain ⟨HB, hz0, hz, hc, hf⟩ := bst (w0 := wb) (by go_grown) hb; clear hb; (try simp at hz); (first | ((refine HS.g5 (m := w'.heap.size) ?_ ?_); (focus omega); intro HS) | ((refine HS.g4 (m := w'.heap.size) ?_ ?_); (focus omega); intro HS) | ((refine HS.g3 (m := w'.heap.size) ?_ ?_); (focus omega); intro HS) | ((refine HS.g2 (m := w'.heap.size) ?_ ?_); (focus omega); intro HS) | ((refine HS.g1 (m := w'.heap.size) ?_ ?_); (focus omega); intro HS) | ((refine HS.g0 (m := w'.heap.size) ?_ ?_); (focus omega); intro HS)); have HU := HS; simp only [AllLt] at HU) | (go_at_call 54; (with_reducible refine (iRelHolds_any _ a b a d _ (HT2.out.below (by go_grown))).mono ?_); rintro e w' ⟨rfl, hb⟩; rw [HRB.out]; obtain ⟨HB, hz0, hz, hc, hf⟩ := bst (w0 := wb) (by go_grown) hb; clear hb; (try simp at hz); (first | ((refine HS.g5 (m := w'.heap.size) ?_ ?_); (focus omega); intro HS) | ((refine HS.g4 (m := w'.heap.size) ?_ ?_); (focus omega); intro HS) | ((refine HS.g3 (m := w'.heap.size) ?_ ?_); (focus omega); intro HS) | ((refine HS.g2 (m := w'.heap.size) ?_ ?_); (focus omega); intro HS) | ((refine HS.g1 (m := w'.heap.size) ?_ ?_); (focus omega); intro HS) | ((refine HS.g0 (m := w'.heap.size) ?_ ?_); (focus omega); intro HS)); have HU := HS; simp only [AllLt] at HU) | (go_at_call 58; (with_reducible refine (iMeetOf_any a b a d _).mono ?_); rintro e w' ⟨rfl, hb⟩; (try rw [HM.out]); obtain ⟨HB, hz0, hz, hc, hf⟩ := bst (w0 := wb) (by go_grown) hb; clear hb; (try simp at hz); (first | ((refine HS.g5 (m := w'.heap.size) ?_ ?_); (focus omega); intro HS) | ((refine HS.g4 (m := w'.heap.size) ?_ ?_); (focus omega); intro HS) | ((refine HS.g3 (m := w'.heap.size) ?_ ?_); (focus omega); intro HS) | ((refine HS.g2 (m := w'.heap.size) ?_ ?_); (focus omega); intro HS) | ((refine HS.g1 (m := w'.heap.size) ?_ ?_); (focus omega); intro HS) | ((refine HS.g0 (m := w'.heap.size) ?_ ?_); (focus omega); intro HS)); have HU := HS; simp only [AllLt] at HU) | fail)
              go_ret
              exact ⟨ret_bool (by first | rfl | exact HMM.out | (rw [HMM.out]; rfl) | (rw [HM.out]; rfl) | (simp [HM.out]; done) | (simp; done) | (simp [*]; done) | (simp [*]; omega)), Hb2.out.trans (Below.mono (by (repeat' (first | (with_reducible exact Below.refl _ _) | (with_reducible refine Below.setCell ?_ ?_ _) | (with_reducible refine below_drewN' ?_ _) | (with_reducible refine below_drew' ?_) | (with_reducible refine Below.alloc ?_ ?_ _) | (with_reducible assumption) | go_size))) Hb2.out.size)⟩
            · have g2 : (a == c) = false := by simpa using g1
              simp only [g1, decide_false] at t5
              have HRB := hid t5
              clear g1
              clear t0 t1 t2 t3 t4 t5 t6 t7
              go_wp2_with (first | (go_at_call 37; (with_reducible refine (iIntervalValid_any a b _).mono ?_); rintro e w' ⟨rfl, hb⟩; rw [H1.out]; obtain ⟨HB, hz0, hz, hc, hf⟩ := bst (w0 := wb) (by go_grown) hb; clear hb; (try simp at hz); (first | ((refine HS.g5 (m := w'.heap.size) ?_ ?_); (focus omega); intro HS) | ((refine HS.g4 (m := w'.heap.size) ?_ ?_); (focus omega); intro HS) | ((refine HS.g3 (m := w'.heap.size) ?_ ?_); (focus omega); intro HS) | ((refine HS.g2 (m := w'.heap.size) ?_ ?_); (focus omega); intro HS) | ((refine HS.g1 (m := w'.heap.size) ?_ ?_); (focus omega); intro HS) | ((refine HS.g0 (m := w'.heap.size) ?_ ?_); (focus omega); intro HS)); have HU := HS; simp only [AllLt] at HU) | (go_at_call 37; (with_reducible refine (iIntervalValid_any c d _).mono ?_); rintro e w' ⟨rfl, hb⟩; rw [H2.out]; obtain ⟨HB, hz0, hz, hc, hf⟩ := bst (w0 := wb) (by go_grown) hb; clear hb; (try simp at hz); (first | ((refine HS.g5 (m := w'.heap.size) ?_ ?_); (focus omega); intro HS) | ((refine HS.g4 (m := w'.heap.size) ?_ ?_); (focus omega); intro HS) | ((refine HS.g3 (m := w'.heap.size) ?_ ?_); (focus omega); intro HS) | ((refine HS.g2 (m := w'.heap.size) ?_ ?_); (focus omega); intro HS) | ((refine HS.g1 (m := w'.heap.size) ?_ ?_); (focus omega); intro HS) | ((refine HS.g0 (m := w'.heap.size) ?_ ?_); (focus omega); intro HS)); have HU := HS; simp only [AllLt] at HU) | (go_at_call 54; (with_reducible refine (iRelHolds_any _ a b c d _ (HT2.out.below (by go_grown))).mono ?_); rintro e w' ⟨rfl, hb⟩; rw [HRB.out]; obtain ⟨HB, hz0, hz, hc, hf⟩ := bst (w0 := wb) (by go_grown) hb; clear hb; (try simp at hz); (first | ((refine HS.g5 (m := w'.heap.size) ?_ ?_); (focus omega); intro HS) | ((refine HS.g4 (m := w'.heap.size) ?_ ?_); (focus omega); intro HS) | ((refine HS.g3 (m := w'.heap.size) ?_ ?_); (focus omega); intro HS) | ((refine HS.g2 (m := w'.heap.size) ?_ ?_); (focus omega); intro HS) | ((refine HS.g1 (m := w'.heap.size) ?_ ?_); (focus omega); intro HS) | ((refine HS.g0 (m := w'.heap.size) ?_ ?_); (focus omega); intro HS)); have HU := HS; simp only [AllLt] at HU) | (go_at_call 58; (with_reducible refine (iMeetOf_any a b c d _).mono ?_); rintro e w' ⟨rfl, hb⟩; (try rw [HM.out]); obtain ⟨HB, hz0, hz, hc, hf⟩ := bst (w0 := wb) (by go_grown) hb; clear hb; (try simp at hz); (first | ((refine HS.g5 (m := w'.heap.size) ?_ ?_); (focus omega); intro HS) | ((refine HS.g4 (m := w'.heap.size) ?_ ?_); (focus omega); intro HS) | ((refine HS.g3 (m := w'.heap.size) ?_ ?_); (focus omega); intro HS) | ((refine HS.g2 (m := w'.heap.size) ?_ ?_); (focus omega); intro HS) | ((refine HS.g1 (m := w'.heap.size) ?_ ?_); (focus omega); intro HS) | ((refine HS.g0 (m := w'.heap.size) ?_ ?_); (focus omega); intro HS)); have HU := HS; simp only [AllLt] at HU) | fail)
              go_ret
              exact ⟨ret_bool (by first | rfl | exact HMM.out | (rw [HMM.out]; rfl) | (rw [HM.out]; rfl) | (simp [HM.out]; done) | (simp; done) | (simp [*]; done) | (simp [*]; omega)), Hb2.out.trans (Below.mono (by (repeat' (first | (with_reducible exact Below.refl _ _) | (with_reducible refine Below.setCell ?_ ?_ _) | (with_reducible refine below_drewN' ?_ _) | (with_reducible refine below_drew' ?_) | (with_reducible refine Below.alloc ?_ ?_ _) | (with_reducible assumption) | go_size))) Hb2.out.size)⟩
      · have E := hid (show nmI ⟨#[101, 110, 100, 115]⟩ = (224, true) by decide +kernel)
        go_wp2_with (first | (go_at_call 56; (with_reducible refine (iNamedRel_any _ _ (HT.out.below (by go_grown)) (HN.out.below (by go_grown))).mono ?_); rintro e w' ⟨rfl, hb⟩; simp only [E.out]; obtain ⟨HB, hz0, hz, hc, hf⟩ := bst (w0 := wa) (by go_grown) hb; clear hb hz hc hf hz0) | (go_at_call 57; (with_reducible refine (sNamedRel_any _ _).mono ?_); rintro e w' ⟨rfl, rfl⟩; simp only [E.out]) | fail)
        refine (DrawBasicOf_any _ _ _ _ _ (W1.out.below (by go_grown))).mono ?_
        rintro e wb ⟨a, b, c, d, rfl, hb⟩
        have HBb : Below wa.heap.size wa wb := (bst (w0 := wa) (by go_grown) hb).1
        have HT2 := hid (HT.out.below HBb)
        have Hb2 := hid (Hb.out.trans (HBb.mono Hb.out.size))
        clear hb HBb W1 HT Hb HN E
        try clear HB
        have HS := AllLt.start wb
        have hn2 := lt2
        have hn3 := lt3
        cases h1 : iv a b
        · have H1 := hid h1
          clear h1
          go_wp2_with (first | (go_at_call 37; (with_reducible refine (iIntervalValid_any a b _).mono ?_); rintro e w' ⟨rfl, hb⟩; rw [H1.out]; obtain ⟨HB, hz0, hz, hc, hf⟩ := bst (w0 := wb) (by go_grown) hb; clear hb; (try simp at hz); (first | ((refine HS.g5 (m := w'.heap.size) ?_ ?_); (focus omega); intro HS) | ((refine HS.g4 (m := w'.heap.size) ?_ ?_); (focus omega); intro HS) | ((refine HS.g3 (m := w'.heap.size) ?_ ?_); (focus omega); intro HS) | ((refine HS.g2 (m := w'.heap.size) ?_ ?_); (focus omega); intro HS) | ((refine HS.g1 (m := w'.heap.size) ?_ ?_); (focus omega); intro HS) | ((refine HS.g0 (m := w'.heap.size) ?_ ?_); (focus omega); intro HS)); have HU := HS; simp only [AllLt] at HU) | fail)
          go_ret
          exact ⟨ret_bool (by first | rfl | (rw [HM.out]; rfl) | (simp [HM.out]; done) | (simp; done) | (simp [*]; done) | (simp [*]; omega)), Hb2.out.trans (Below.mono (by (repeat' (first | (with_reducible exact Below.refl _ _) | (with_reducible refine Below.setCell ?_ ?_ _) | (with_reducible refine below_drewN' ?_ _) | (with_reducible refine below_drew' ?_) | (with_reducible refine Below.alloc ?_ ?_ _) | (with_reducible assumption) | go_size))) Hb2.out.size)⟩
        · cases h2 : iv c d
          · by_cases heq : a = c ∧ b = d
            · exfalso; obtain ⟨rfl, rfl⟩ := heq; exact Bool.noConfusion (h1.symm.trans h2)
            · have H1 := hid h1
              have H2 := hid h2
              clear h1 h2 heq
              go_wp2_with (first | (go_at_call 37; (with_reducible refine (iIntervalValid_any a b _).mono ?_); rintro e w' ⟨rfl, hb⟩; rw [H1.out]; obtain ⟨HB, hz0, hz, hc, hf⟩ := bst (w0 := wb) (by go_grown) hb; clear hb; (try simp at hz); (first | ((refine HS.g5 (m := w'.heap.size) ?_ ?_); (focus omega); intro HS) | ((refine HS.g4 (m := w'.heap.size) ?_ ?_); (focus omega); intro HS) | ((refine HS.g3 (m := w'.heap.size) ?_ ?_); (focus omega); intro HS) | ((refine HS.g2 (m := w'.heap.size) ?_ ?_); (focus omega); intro HS) | ((refine HS.g1 (m := w'.heap.size) ?_ ?_); (focus omega); intro HS) | ((refine HS.g0 (m := w'.heap.size) ?_ ?_); (focus omega); intro HS)); have HU := HS; simp only [AllLt] at HU) | (go_at_call 37; (with_reducible refine (iIntervalValid_any c d _).mono ?_); rintro e w' ⟨rfl, hb⟩; rw [H2.out]; obtain ⟨HB, hz0, hz, hc, hf⟩ := bst (w0 := wb) (by go_grown) hb; clear hb; (try simp at hz); (first | ((refine HS.g5 (m := w'.heap.size) ?_ ?_); (focus omega); intro HS) | ((refine HS.g4 (m := w'.heap.size) ?_ ?_); (focus omega); intro HS) | ((refine HS.g3 (m := w'.heap.size) ?_ ?_); (focus omega); intro HS) | ((refine HS.g2 (m := w'.heap.size) ?_ ?_); (focus omega); intro HS) | ((refine HS.g1 (m := w'.heap.size) ?_ ?_); (focus omega); intro HS) | ((refine HS.g0 (m := w'.heap.size) ?_ ?_); (focus omega); intro HS)); have HU := HS; simp only [AllLt] at HU) | fail)
              go_ret
              exact ⟨ret_bool (by first | rfl | exact HMM.out | (rw [HMM.out]; rfl) | (rw [HM.out]; rfl) | (simp [HM.out]; done) | (simp; done) | (simp [*]; done) | (simp [*]; omega)), Hb2.out.trans (Below.mono (by (repeat' (first | (with_reducible exact Below.refl _ _) | (with_reducible refine Below.setCell ?_ ?_ _) | (with_reducible refine below_drewN' ?_ _) | (with_reducible refine below_drew' ?_) | (with_reducible refine Below.alloc ?_ ?_ _) | (with_reducible assumption) | go_size))) Hb2.out.size)⟩
          · obtain ⟨t0, t1, t2, t3, t4, t5, t6, t7⟩ := nm_rel h1 h2
            have H1 := hid h1
            have H2 := hid h2
            have HM := hid (Eq.refl (mtB a b c d))
            clear h1 h2
            by_cases g1 : b = d
            · subst g1
              simp only [decide_true] at t6
              have HRB := hid t6
              clear t0 t1 t2 t3 t4 t5 t6 t7
              go_wp2_with (first | (go_at_call 37; (with_reducible refine (iIntervalValid_any a b _).mono ?_); rintro e w' ⟨rfl, hb⟩; rw [H1.out]; obtain ⟨HB, hz0, hz, hc, hf⟩ := bst (w0 := wb) (by go_grown) hb; clear hb; (try simp at hz); (first | ((refine HS.g5 (m := w'.heap.size) ?_ ?_); (focus omega); intro HS) | ((refine HS.g4 (m := w'.heap.size) ?_ ?_); (focus omega); intro HS) | ((refine HS.g3 (m := w'.heap.size) ?_ ?_); (focus omega); intro HS) | ((refine HS.g2 (m := w'.heap.size) ?_ ?_); (focus omega); intro HS) | ((refine HS.g1 (m := w'.heap.size) ?_ ?_); (focus omega); intro HS) | ((refine HS.g0 (m := w'.heap.size) ?_ ?_); (focus omega); intro HS)); have HU := HS; simp only [AllLt] at HU) | (go_at_call 37; (with_reducible refine (iIntervalValid_any c b _).mono ?_); rintro e w' ⟨rfl, hb⟩; rw [H2.out]; obtain ⟨HB, hz0, hz, hc, hf⟩ := bst (w0 := wb) (by go_grown) hb; clear hb; (try simp at hz); (first | ((refine HS.g5 (m := w'.heap.size) ?_ ?_); (focus omega); intro HS) | ((refine HS.g4 (m := w'.heap.size) ?_ ?_); (focus omega); intro HS) | ((refine HS.g3 (m := w'.heap.size) ?_ ?_); (focus omega); intro HS) | ((refine HS.g2 (m := w'.heap.size) ?_ ?_); (focus omega); intro HS) | ((refine HS.g1 (m := w'.heap.size) ?_ ?_); (focus omega); intro HS) | ((refine HS.g0 (m := w'.heap.size) ?_ ?_); (focus omega); intro HS)); have HU := HS; simp only [AllLt] at HU) | (go_at_call 54; (with_reducible refine (iRelHolds_any _ a b c b _ (HT2.out.below (by go_grown))).mono ?_); rintro e w' ⟨rfl, hb⟩; rw [HRB.out]; obtain ⟨HB, hz0, hz, hc, hf⟩ := bst (w0 := wb) (by go_grown) hb; clear hb; (try simp at hz); (first | ((refine HS.g5 (m := w'.heap.size) ?_ ?_); (focus omega); intro HS) | ((refine HS.g4 (m := w'.heap.size) ?_ ?_); (focus omega); intro HS) | ((refine HS.g3 (m := w'.heap.size) ?_ ?_); (focus omega); intro HS) | ((refine HS.g2 (m := w'.heap.size) ?_ ?_); (focus omega); intro HS) | ((refine HS.g1 (m := w'.heap.size) ?_ ?_); (focus omega); intro HS) | ((refine HS.g0 (m := w'.heap.size) ?_ ?_); (focus omega); intro HS)); have HU := HS; simp only [AllLt] at HU) | (go_at_call 58; (with_reducible refine (iMeetOf_any a b c b _).mono ?_); rintro e w' ⟨rfl, hb⟩; (try rw [HM.out]); obtain ⟨HB, hz0, hz, hc, hf⟩ := bst (w0 := wb) (by go_grown) hb; clear hb; (try simp at hz); (first | ((refine HS.g5 (m := w'.heap.size) ?_ ?_); (focus omega); intro HS) | ((refine HS.g4 (m := w'.heap.size) ?_ ?_); (focus omega); intro HS) | ((refine HS.g3 (m := w'.heap.size) ?_ ?_); (focus omega); intro HS) | ((refine HS.g2 (m := w'.heap.size) ?_ ?_); (focus omega); intro HS) | ((refine HS.g1 (m := w'.heap.size) ?_ ?_); (focus omega); intro HS) | ((refine HS.g0 (m := w'.heap.size) ?_ ?_); (focus omega); intro HS)); have HU := HS; simp only [AllLt] at HU) | fail)
              go_ret
              exact ⟨ret_bool (by first | rfl | exact HMM.out | (rw [HMM.out]; rfl) | (rw [HM.out]; rfl) | (simp [HM.out]; done) | (simp; done) | (simp [*]; done) | (simp [*]; omega)), Hb2.out.trans (Below.mono (by (repeat' (first | (with_reducible exact Below.refl _ _) | (with_reducible refine Below.setCell ?_ ?_ _) | (with_reducible refine below_drewN' ?_ _) | (with_reducible refine below_drew' ?_) | (with_reducible refine Below.alloc ?_ ?_ _) | (with_reducible assumption) | go_size))) Hb2.out.size)⟩
            · have g2 : (b == d) = false := by simpa using g1
              simp only [g1, decide_false] at t6
              have HRB := hid t6
              clear g1
              clear t0 t1 t2 t3 t4 t5 t6 t7
              go_wp2_with (first | (go_at_call 37; (with_reducible refine (iIntervalValid_any a b _).mono ?_); rintro e w' ⟨rfl, hb⟩; rw [H1.out]; obtain ⟨HB, hz0, hz, hc, hf⟩ := bst (w0 := wb) (by go_grown) hb; clear hb; (try simp at hz); (first | ((refine HS.g5 (m := w'.heap.size) ?_ ?_); (focus omega); intro HS) | ((refine HS.g4 (m := w'.heap.size) ?_ ?_); (focus omega); intro HS) | ((refine HS.g3 (m := w'.heap.size) ?_ ?_); (focus omega); intro HS) | ((refine HS.g2 (m := w'.heap.size) ?_ ?_); (focus omega); intro HS) | ((refine HS.g1 (m := w'.heap.size) ?_ ?_); (focus omega); intro HS) | ((refine HS.g0 (m := w'.heap.size) ?_ ?_); (focus omega); intro HS)); have HU := HS; simp only [AllLt] at HU) | (go_at_call 37; (with_reducible refine (iIntervalValid_any c d _).mono ?_); rintro e w' ⟨rfl, hb⟩; rw [H2.out]; obtain ⟨HB, hz0, hz, hc, hf⟩ := bst (w0 := wb) (by go_grown) hb; clear hb; (try simp at hz); (first | ((refine HS.g5 (m := w'.heap.size) ?_ ?_); (focus omega); intro HS) | ((refine HS.g4 (m := w'.heap.size) ?_ ?_); (focus omega); intro HS) | ((refine HS.g3 (m := w'.heap.size) ?_ ?_); (focus omega); intro HS) | ((refine HS.g2 (m := w'.heap.size) ?_ ?_); (focus omega); intro HS) | ((refine HS.g1 (m := w'.heap.size) ?_ ?_); (focus omega); intro HS) | ((refine HS.g0 (m := w'.heap.size) ?_ ?_); (focus omega); intro HS)); have HU := HS; simp only [AllLt] at HU) | (go_at_call 54; (with_reducible refine (iRelHolds_any _ a b c d _ (HT2.out.below (by go_grown))).mono ?_); rintro e w' ⟨rfl, hb⟩; rw [HRB.out]; obtain ⟨HB, hz0, hz, hc, hf⟩ := bst (w0 := wb) (by go_grown) hb; clear hb; (try simp at hz); (first | ((refine HS.g5 (m := w'.heap.size) ?_ ?_); (focus omega); intro HS) | ((refine HS.g4 (m := w'.heap.size) ?_ ?_); (focus omega); intro HS) | ((refine HS.g3 (m := w'.heap.size) ?_ ?_); (focus omega); intro HS) | ((refine HS.g2 (m := w'.heap.size) ?_ ?_); (focus omega); intro HS) | ((refine HS.g1 (m := w'.heap.size) ?_ ?_); (focus omega); intro HS) | ((refine HS.g0 (m := w'.heap.size) ?_ ?_); (focus omega); intro HS)); have HU := HS; simp only [AllLt] at HU) | (go_at_call 58; (with_reducible refine (iMeetOf_any a b c d _).mono ?_); rintro e w' ⟨rfl, hb⟩; (try rw [HM.out]); obtain ⟨HB, hz0, hz, hc, hf⟩ := bst (w0 := wb) (by go_grown) hb; clear hb; (try simp at hz); (first | ((refine HS.g5 (m := w'.heap.size) ?_ ?_); (focus omega); intro HS) | ((refine HS.g4 (m := w'.heap.size) ?_ ?_); (focus omega); intro HS) | ((refine HS.g3 (m := w'.heap.size) ?_ ?_); (focus omega); intro HS) | ((refine HS.g2 (m := w'.heap.size) ?_ ?_); (focus omega); intro HS) | ((refine HS.g1 (m := w'.heap.size) ?_ ?_); (focus omega); intro HS) | ((refine HS.g0 (m := w'.heap.size) ?_ ?_); (focus omega); intro HS)); have HU := HS; simp only [AllLt] at HU) | fail)
              go_ret
              exact ⟨ret_bool (by first | rfl | exact HMM.out | (rw [HMM.out]; rfl) | (rw [HM.out]; rfl) | (simp [HM.out]; done) | (simp; done) | (simp [*]; done) | (simp [*]; omega)), Hb2.out.trans (Below.mono (by (repeat' (first | (with_reducible exact Below.refl _ _) | (with_reducible refine Below.setCell ?_ ?_ _) | (with_reducible refine below_drewN' ?_ _) | (with_reducible refine below_drew' ?_) | (with_reducible refine Below.alloc ?_ ?_ _) | (with_reducible assumption) | go_size))) Hb2.out.size)⟩
      · have E := hid (show nmI ⟨#[101, 97, 114, 108, 105, 101, 114]⟩ = (391, true) by decide +kernel)
        go_wp2_with (first | (go_at_call 56; (with_reducible refine (iNamedRel_any _ _ (HT.out.below (by go_grown)) (HN.out.below (by go_grown))).mono ?_); rintro e w' ⟨rfl, hb⟩; simp only [E.out]; obtain ⟨HB, hz0, hz, hc, hf⟩ := bst (w0 := wa) (by go_grown) hb; clear hb hz hc hf hz0) | (go_at_call 57; (with_reducible refine (sNamedRel_any _ _).mono ?_); rintro e w' ⟨rfl, rfl⟩; simp only [E.out]) | fail)
        refine (DrawBasicOf_any _ _ _ _ _ (W1.out.below (by go_grown))).mono ?_
        rintro e wb ⟨a, b, c, d, rfl, hb⟩
        have HBb : Below wa.heap.size wa wb := (bst (w0 := wa) (by go_grown) hb).1
        have HT2 := hid (HT.out.below HBb)
        have Hb2 := hid (Hb.out.trans (HBb.mono Hb.out.size))
        clear hb HBb W1 HT Hb HN E
        try clear HB
        have HS := AllLt.start wb
        have hn2 := lt2
        have hn3 := lt3
        cases h1 : iv a b
        · have H1 := hid h1
          clear h1
          go_wp2_with (first | (go_at_call 37; (with_reducible refine (iIntervalValid_any a b _).mono ?_); rintro e w' ⟨rfl, hb⟩; rw [H1.out]; obtain ⟨HB, hz0, hz, hc, hf⟩ := bst (w0 := wb) (by go_grown) hb; clear hb; (try simp at hz); (first | ((refine HS.g5 (m := w'.heap.size) ?_ ?_); (focus omega); intro HS) | ((refine HS.g4 (m := w'.heap.size) ?_ ?_); (focus omega); intro HS) | ((refine HS.g3 (m := w'.heap.size) ?_ ?_); (focus omega); intro HS) | ((refine HS.g2 (m := w'.heap.size) ?_ ?_); (focus omega); intro HS) | ((refine HS.g1 (m := w'.heap.size) ?_ ?_); (focus omega); intro HS) | ((refine HS.g0 (m := w'.heap.size) ?_ ?_); (focus omega); intro HS)); have HU := HS; simp only [AllLt] at HU) | fail)
          go_ret
          exact ⟨ret_bool (by first | rfl | (rw [HM.out]; rfl) | (simp [HM.out]; done) | (simp; done) | (simp [*]; done) | (simp [*]; omega)), Hb2.out.trans (Below.mono (by (repeat' (first | (with_reducible exact Below.refl _ _) | (with_reducible refine Below.setCell ?_ ?_ _) | (with_reducible refine below_drewN' ?_ _) | (with_reducible refine below_drew' ?_) | (with_reducible refine Below.alloc ?_ ?_ _) | (with_reducible assumption) | go_size))) Hb2.out.size)⟩
        · cases h2 : iv c d
          · by_cases heq : a = c ∧ b = d
            · exfalso; obtain ⟨rfl, rfl⟩ := heq; exact Bool.noConfusion (h1.symm.trans h2)
            · have H1 := hid h1
              have H2 := hid h2
              clear h1 h2 heq
              go_wp2_with (first | (go_at_call 37; (with_reducible refine (iIntervalValid_any a b _).mono ?_); rintro e w' ⟨rfl, hb⟩; rw [H1.out]; obtain ⟨HB, hz0, hz, hc, hf⟩ := bst (w0 := wb) (by go_grown) hb; clear hb; (try simp at hz); (first | ((refine HS.g5 (m := w'.heap.size) ?_ ?_); (focus omega); intro HS) | ((refine HS.g4 (m := w'.heap.size) ?_ ?_); (focus omega); intro HS) | ((refine HS.g3 (m := w'.heap.size) ?_ ?_); (focus omega); intro HS) | ((refine HS.g2 (m := w'.heap.size) ?_ ?_); (focus omega); intro HS) | ((refine HS.g1 (m := w'.heap.size) ?_ ?_); (focus omega); intro HS) | ((refine HS.g0 (m := w'.heap.size) ?_ ?_); (focus omega); intro HS)); have HU := HS; simp only [AllLt] at HU) | (go_at_call 37; (with_reducible refine (iIntervalValid_any c d _).mono ?_); rintro e w' ⟨rfl, hb⟩; rw [H2.out]; obtain ⟨HB, hz0, hz, hc, hf⟩ := bst (w0 := wb) (by go_grown) hb; clear hb; (try simp at hz); (first | ((refine HS.g5 (m := w'.heap.size) ?_ ?_); (focus omega); intro HS) | ((refine HS.g4 (m := w'.heap.size) ?_ ?_); (focus omega); intro HS) | ((refine HS.g3 (m := w'.heap.size) ?_ ?_); (focus omega); intro HS) | ((refine HS.g2 (m := w'.heap.size) ?_ ?_); (focus omega); intro HS) | ((refine HS.g1 (m := w'.heap.size) ?_ ?_); (focus omega); intro HS) | ((refine HS.g0 (m := w'.heap.size) ?_ ?_); (focus omega); intro HS)); have HU := HS; simp only [AllLt] at HU) | fail)
              go_ret
              exact ⟨ret_bool (by first | rfl | exact HMM.out | (rw [HMM.out]; rfl) | (rw [HM.out]; rfl) | (simp [HM.out]; done) | (simp; done) | (simp [*]; done) | (simp [*]; omega)), Hb2.out.trans (Below.mono (by (repeat' (first | (with_reducible exact Below.refl _ _) | (with_reducible refine Below.setCell ?_ ?_ _) | (with_reducible refine below_drewN' ?_ _) | (with_reducible refine below_drew' ?_) | (with_reducible refine Below.alloc ?_ ?_ _) | (with_reducible assumption) | go_size))) Hb2.out.size)⟩
          · obtain ⟨t0, t1, t2, t3, t4, t5, t6, t7⟩ := nm_rel h1 h2
            have H1 := hid h1
            have H2 := hid h2
            have HM := hid (Eq.refl (mtB a b c d))
            clear h1 h2
            by_cases g1 : a < c
            all_goals
              simp only [g1, decide_true, decide_false] at t7
              have HRB := hid t7
              clear t0 t1 t2 t3 t4 t5 t6 t7
              go_wp2_with (first | (go_at_call 37; (with_reducible refine (iIntervalValid_any a b _).mono ?_); rintro e w' ⟨rfl, hb⟩; rw [H1.out]; obtain ⟨HB, hz0, hz, hc, hf⟩ := bst (w0 := wb) (by go_grown) hb; clear hb; (try simp at hz); (first | ((refine HS.g5 (m := w'.heap.size) ?_ ?_); (focus omega); intro HS) | ((refine HS.g4 (m := w'.heap.size) ?_ ?_); (focus omega); intro HS) | ((refine HS.g3 (m := w'.heap.size) ?_ ?_); (focus omega); intro HS) | ((refine HS.g2 (m := w'.heap.size) ?_ ?_); (focus omega); intro HS) | ((refine HS.g1 (m := w'.heap.size) ?_ ?_); (focus omega); intro HS) | ((refine HS.g0 (m := w'.heap.size) ?_ ?_); (focus omega); intro HS)); have HU := HS; simp only [AllLt] at HU) | (go_at_call 37; (with_reducible refine (iIntervalValid_any c d _).mono ?_); rintro e w' ⟨rfl, hb⟩; rw [H2.out]; obtain ⟨HB, hz0, hz, hc, hf⟩ := bst (w0 := wb) (by go_grown) hb; clear hb; (try simp at hz); (first | ((refine HS.g5 (m := w'.heap.size) ?_ ?_); (focus omega); intro HS) | ((refine HS.g4 (m := w'.heap.size) ?_ ?_); (focus omega); intro HS) | ((refine HS.g3 (m := w'.heap.size) ?_ ?_); (focus omega); intro HS) | ((refine HS.g2 (m := w'.heap.size) ?_ ?_); (focus omega); intro HS) | ((refine HS.g1 (m := w'.heap.size) ?_ ?_); (focus omega); intro HS) | ((refine HS.g0 (m := w'.heap.size) ?_ ?_); (focus omega); intro HS)); have HU := HS; simp only [AllLt] at HU) | (go_at_call 54; (with_reducible refine (iRelHolds_any _ a b c d _ (HT2.out.below (by go_grown))).mono ?_); rintro e w' ⟨rfl, hb⟩; rw [HRB.out]; obtain ⟨HB, hz0, hz, hc, hf⟩ := bst (w0 := wb) (by go_grown) hb; clear hb; (try simp at hz); (first | ((refine HS.g5 (m := w'.heap.size) ?_ ?_); (focus omega); intro HS) | ((refine HS.g4 (m := w'.heap.size) ?_ ?_); (focus omega); intro HS) | ((refine HS.g3 (m := w'.heap.size) ?_ ?_); (focus omega); intro HS) | ((refine HS.g2 (m := w'.heap.size) ?_ ?_); (focus omega); intro HS) | ((refine HS.g1 (m := w'.heap.size) ?_ ?_); (focus omega); intro HS) | ((refine HS.g0 (m := w'.heap.size) ?_ ?_); (focus omega); intro HS)); have HU := HS; simp only [AllLt] at HU) | (go_at_call 58; (with_reducible refine (iMeetOf_any a b c d _).mono ?_); rintro e w' ⟨rfl, hb⟩; (try rw [HM.out]); obtain ⟨HB, hz0, hz, hc, hf⟩ := bst (w0 := wb) (by go_grown) hb; clear hb; (try simp at hz); (first | ((refine HS.g5 (m := w'.heap.size) ?_ ?_); (focus omega); intro HS) | ((refine HS.g4 (m := w'.heap.size) ?_ ?_); (focus omega); intro HS) | ((refine HS.g3 (m := w'.heap.size) ?_ ?_); (focus omega); intro HS) | ((refine HS.g2 (m := w'.heap.size) ?_ ?_); (focus omega); intro HS) | ((refine HS.g1 (m := w'.heap.size) ?_ ?_); (focus omega); intro HS) | ((refine HS.g0 (m := w'.heap.size) ?_ ?_); (focus omega); intro HS)); have HU := HS; simp only [AllLt] at HU) | fail)
              go_ret
              exact ⟨ret_bool (by first | rfl | exact HMM.out | (rw [HMM.out]; rfl) | (rw [HM.out]; rfl) | (simp [HM.out]; done) | (simp; done) | (simp [*]; done) | (simp [*]; omega)), Hb2.out.trans (Below.mono (by (repeat' (first | (with_reducible exact Below.refl _ _) | (with_reducible refine Below.setCell ?_ ?_ _) | (with_reducible refine below_drewN' ?_ _) | (with_reducible refine below_drew' ?_) | (with_reducible refine Below.alloc ?_ ?_ _) | (with_reducible assumption) | go_size))) Hb2.out.size)⟩
      · have E := hid hr
        clear q0 q1 q2 q3 q4 q5 q6 q7 hr
        go_wp2_with (first | (go_at_call 56; (with_reducible refine (iNamedRel_any _ _ (HT.out.below (by go_grown)) (HN.out.below (by go_grown))).mono ?_); rintro e w' ⟨rfl, hb⟩; simp only [E.out]; obtain ⟨HB, hz0, hz, hc, hf⟩ := bst (w0 := wa) (by go_grown) hb; clear hb hz hc hf hz0) | (go_at_call 57; (with_reducible refine (sNamedRel_any _ _).mono ?_); rintro e w' ⟨rfl, rfl⟩; simp only [E.out]) | fail)
        go_ret
        exact ⟨rfl, Hb.out.trans (Below.mono (by go_grown) Hb.out.size)⟩
    · have hd1 : decide ((1048576 : Int) < (len1 : Int)) = true := by simp; omega
      have HS := AllLt.start w; go_enter Tryd.func10, Tryd.ntmps10
      go_wp2
      go_ret
      exact ⟨rfl, Below.refl _ _⟩
  · have hd : decide ((1048576 : Int) < (len0 : Int)) = true := by simp; omega
    have HS := AllLt.start w; go_enter Tryd.func10, Tryd.ntmps10
    go_wp2
    go_ret
    exact ⟨rfl, Below.refl _ _⟩
end Go.Proofs.YtnhpjjbblegnaabDoor.C
