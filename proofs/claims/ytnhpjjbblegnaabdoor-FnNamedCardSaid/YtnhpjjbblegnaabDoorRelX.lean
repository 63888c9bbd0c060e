/- Does a relation hold between two intervals? The exact laws of one relation. -/
import Derived.Test.YtnhpjjbblegnaabDoorRel
import Derived.Test.YtnhpjjbblegnaabDoorBasic
namespace Go.Proofs.YtnhpjjbblegnaabDoor.C
open Go.RowKit
set_option linter.unusedVariables false
set_option linter.unusedSimpArgs false
def rhB (r a b c d : Int) : Bool := rv r && (bo a b c d && r.toNat.testBit (batI (zn a c d) (zn b c d)).toNat)
theorem rhB_off1 {r a b c d : Int} (h : rv r = false) : rhB r a b c d = false := by simp [rhB, h]
theorem rhB_off2 {r a b c d : Int} (h : bo a b c d = false) : rhB r a b c d = false := by simp [rhB, h]
theorem rhB_on {n k : Nat} {a b c d : Int} (hn : n < 8192) (h : bo a b c d = true) (hk : batI (zn a c d) (zn b c d) = k) : rhB n a b c d = n.testBit k := by simp [rhB, h, hk, rv_nat n hn]
theorem lix_none : lix ⟨#[]⟩ = (0, false) := by decide +kernel
theorem bo_cases (a b c d : Int) : (bo a b c d = true ∧ ∃ k, k < 13 ∧ boS a b c d = ltr k ∧ batI (zn a c d) (zn b c d) = (k : Int)) ∨ (bo a b c d = false ∧ boS a b c d = ⟨#[]⟩) := by
  by_cases h : iv a b = true ∧ iv c d = true
  · obtain ⟨h1, h2⟩ := h
    obtain ⟨k, hk, _, _, hr⟩ := zn_bat h1 h2
    exact .inl ⟨by simp [bo, h1, h2], k, hk, by rw [boS_t h1 h2, batI_hit hr, ltrI_nat], batI_hit hr⟩
  · refine .inr ?_
    cases h1 : iv a b <;> cases h2 : iv c d <;> simp_all [bo, boS]
set_option maxHeartbeats 1000000 in
theorem iRelHolds_any (r a b c d : Int) (w : World) (hT : TB w) :
    Calls Tryd.prog 54 #[.int .i64 r, .agg #[.int .i64 a, .int .i64 b], .agg #[.int .i64 c, .int .i64 d]] w fun e w' => e = .returned (.bool (rhB r a b c d)) ∧ Below w.heap.size w w' := by
  have HT := hid hT
  clear hT
  rcases bo_cases a b c d with ⟨hb, k, hk, hs, hbat⟩ | ⟨hb, hs⟩
  · have HL := hid (lix_ltr hk)
    have HS' := hid hs
    rcases rv_cases r with hr | ⟨n, hn, rfl⟩
    · have HR := hid hr
      have HF := hid (rhB_off1 (a := a) (b := b) (c := c) (d := d) hr)
      clear hr hb hs hbat
      have HS := AllLt.start w; have hn2 := lt2; have hn3 := lt3; have hn4 := lt4; go_enter Tryd.func54, Tryd.ntmps54
      go_wp2_with (first | (go_at_call 39; (with_reducible refine (iBasicOf_any a b c d _ (HT.out.below (by go_grown))).mono ?_); rintro e w' ⟨rfl, hb⟩; obtain ⟨HB, hz0, hz, hc, hf⟩ := bst (w0 := w) (by go_grown) hb; clear hb; (try simp at hz); (first | ((refine HS.g5 (m := w'.heap.size) ?_ ?_); (focus omega); intro HS) | ((refine HS.g4 (m := w'.heap.size) ?_ ?_); (focus omega); intro HS) | ((refine HS.g3 (m := w'.heap.size) ?_ ?_); (focus omega); intro HS) | ((refine HS.g2 (m := w'.heap.size) ?_ ?_); (focus omega); intro HS) | ((refine HS.g1 (m := w'.heap.size) ?_ ?_); (focus omega); intro HS) | ((refine HS.g0 (m := w'.heap.size) ?_ ?_); (focus omega); intro HS)); have HU := HS; simp only [AllLt] at HU; rw [HS'.out]) | (go_at_call 82; (with_reducible refine (basicOfLetter_any _ _ (HT.out.below (by go_grown))).mono ?_); rintro e w' ⟨rfl, hb⟩; obtain ⟨HB, hz0, hz, hc, hf⟩ := bst (w0 := w) (by go_grown) hb; clear hb; (try simp at hz); (first | ((refine HS.g5 (m := w'.heap.size) ?_ ?_); (focus omega); intro HS) | ((refine HS.g4 (m := w'.heap.size) ?_ ?_); (focus omega); intro HS) | ((refine HS.g3 (m := w'.heap.size) ?_ ?_); (focus omega); intro HS) | ((refine HS.g2 (m := w'.heap.size) ?_ ?_); (focus omega); intro HS) | ((refine HS.g1 (m := w'.heap.size) ?_ ?_); (focus omega); intro HS) | ((refine HS.g0 (m := w'.heap.size) ?_ ?_); (focus omega); intro HS)); have HU := HS; simp only [AllLt] at HU; simp only [HL.out]) | (go_at_call 24; (with_reducible refine (iRelValid_any _ _).mono ?_); rintro e w' ⟨rfl, rfl⟩; rw [HR.out]))
      go_ret
      exact ⟨ret_bool HF.out.symm, by (repeat' (first | (with_reducible exact Below.refl _ _) | (with_reducible refine Below.setCell ?_ ?_ _) | (with_reducible refine below_drewN' ?_ _) | (with_reducible refine below_drew' ?_) | (with_reducible refine Below.alloc ?_ ?_ _) | (with_reducible assumption) | go_size))⟩
    · have HR := hid (rv_nat n hn)
      have HF := hid (rhB_on hn hb hbat)
      clear hb hs hbat
      have HS := AllLt.start w; have hn2 := lt2; have hn3 := lt3; have hn4 := lt4; go_enter Tryd.func54, Tryd.ntmps54
      go_wp2_with (first | (go_at_call 39; (with_reducible refine (iBasicOf_any a b c d _ (HT.out.below (by go_grown))).mono ?_); rintro e w' ⟨rfl, hb⟩; obtain ⟨HB, hz0, hz, hc, hf⟩ := bst (w0 := w) (by go_grown) hb; clear hb; (try simp at hz); (first | ((refine HS.g5 (m := w'.heap.size) ?_ ?_); (focus omega); intro HS) | ((refine HS.g4 (m := w'.heap.size) ?_ ?_); (focus omega); intro HS) | ((refine HS.g3 (m := w'.heap.size) ?_ ?_); (focus omega); intro HS) | ((refine HS.g2 (m := w'.heap.size) ?_ ?_); (focus omega); intro HS) | ((refine HS.g1 (m := w'.heap.size) ?_ ?_); (focus omega); intro HS) | ((refine HS.g0 (m := w'.heap.size) ?_ ?_); (focus omega); intro HS)); have HU := HS; simp only [AllLt] at HU; rw [HS'.out]) | (go_at_call 82; (with_reducible refine (basicOfLetter_any _ _ (HT.out.below (by go_grown))).mono ?_); rintro e w' ⟨rfl, hb⟩; obtain ⟨HB, hz0, hz, hc, hf⟩ := bst (w0 := w) (by go_grown) hb; clear hb; (try simp at hz); (first | ((refine HS.g5 (m := w'.heap.size) ?_ ?_); (focus omega); intro HS) | ((refine HS.g4 (m := w'.heap.size) ?_ ?_); (focus omega); intro HS) | ((refine HS.g3 (m := w'.heap.size) ?_ ?_); (focus omega); intro HS) | ((refine HS.g2 (m := w'.heap.size) ?_ ?_); (focus omega); intro HS) | ((refine HS.g1 (m := w'.heap.size) ?_ ?_); (focus omega); intro HS) | ((refine HS.g0 (m := w'.heap.size) ?_ ?_); (focus omega); intro HS)); have HU := HS; simp only [AllLt] at HU; simp only [HL.out]) | (go_at_call 24; (with_reducible refine (iRelValid_any _ _).mono ?_); rintro e w' ⟨rfl, rfl⟩; rw [HR.out]) | (go_at_call 113; (with_reducible refine (rhas_any n k hn hk _).mono ?_); rintro e w' ⟨rfl, rfl⟩))
      go_ret
      exact ⟨ret_bool HF.out.symm, by (repeat' (first | (with_reducible exact Below.refl _ _) | (with_reducible refine Below.setCell ?_ ?_ _) | (with_reducible refine below_drewN' ?_ _) | (with_reducible refine below_drew' ?_) | (with_reducible refine Below.alloc ?_ ?_ _) | (with_reducible assumption) | go_size))⟩
  · have HL := hid lix_none
    have HS' := hid hs
    have HF := hid (rhB_off2 (r := r) hb)
    clear hb hs
    have HS := AllLt.start w; have hn2 := lt2; have hn3 := lt3; have hn4 := lt4; go_enter Tryd.func54, Tryd.ntmps54
    go_wp2_with (first | (go_at_call 39; (with_reducible refine (iBasicOf_any a b c d _ (HT.out.below (by go_grown))).mono ?_); rintro e w' ⟨rfl, hb⟩; obtain ⟨HB, hz0, hz, hc, hf⟩ := bst (w0 := w) (by go_grown) hb; clear hb; (try simp at hz); (first | ((refine HS.g5 (m := w'.heap.size) ?_ ?_); (focus omega); intro HS) | ((refine HS.g4 (m := w'.heap.size) ?_ ?_); (focus omega); intro HS) | ((refine HS.g3 (m := w'.heap.size) ?_ ?_); (focus omega); intro HS) | ((refine HS.g2 (m := w'.heap.size) ?_ ?_); (focus omega); intro HS) | ((refine HS.g1 (m := w'.heap.size) ?_ ?_); (focus omega); intro HS) | ((refine HS.g0 (m := w'.heap.size) ?_ ?_); (focus omega); intro HS)); have HU := HS; simp only [AllLt] at HU; rw [HS'.out]) | (go_at_call 82; (with_reducible refine (basicOfLetter_any _ _ (HT.out.below (by go_grown))).mono ?_); rintro e w' ⟨rfl, hb⟩; obtain ⟨HB, hz0, hz, hc, hf⟩ := bst (w0 := w) (by go_grown) hb; clear hb; (try simp at hz); (first | ((refine HS.g5 (m := w'.heap.size) ?_ ?_); (focus omega); intro HS) | ((refine HS.g4 (m := w'.heap.size) ?_ ?_); (focus omega); intro HS) | ((refine HS.g3 (m := w'.heap.size) ?_ ?_); (focus omega); intro HS) | ((refine HS.g2 (m := w'.heap.size) ?_ ?_); (focus omega); intro HS) | ((refine HS.g1 (m := w'.heap.size) ?_ ?_); (focus omega); intro HS) | ((refine HS.g0 (m := w'.heap.size) ?_ ?_); (focus omega); intro HS)); have HU := HS; simp only [AllLt] at HU; simp only [HL.out]))
    go_ret
    exact ⟨ret_bool HF.out.symm, by (repeat' (first | (with_reducible exact Below.refl _ _) | (with_reducible refine Below.setCell ?_ ?_ _) | (with_reducible refine below_drewN' ?_ _) | (with_reducible refine below_drew' ?_) | (with_reducible refine Below.alloc ?_ ?_ _) | (with_reducible assumption) | go_size))⟩
end Go.Proofs.YtnhpjjbblegnaabDoor.C
