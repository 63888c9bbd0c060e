/- The exact laws of one relation: how many basic ones, all others, turned and mirrored. -/
import Derived.Test.YthldegohihkkiaaDoorRel
namespace Go.Proofs.YthldegohihkkiaaDoor.C
open Go.RowKit
set_option linter.unusedVariables false
set_option linter.unusedSimpArgs false
/-- two functions of numbers below 8192 that agree -/
theorem by_all {f g : Nat → Int} (h : all8192 (fun n => decide (f n = g n)) = true) (n : Nat) (hn : n < 8192) : f n = g n := of_decide_eq_true (all8192_of h n hn)
set_option maxHeartbeats 1000000 in
theorem l3Turn_any (n : Nat) (hn : n < 8192) (w : World) :
    Calls Tryd.prog 43 #[.int .i64 n] w fun e w' => e = .returned (.int .i64 ((chN turF n : Nat) : Int)) ∧ w = w' := by
  have HS := AllLt.start w; go_enter Tryd.func43, Tryd.ntmps43
  go_wp2
  go_loop [3, 4] (fun acc v => ∃ k : Nat, k ≤ 13 ∧ v = .int .i64 k ∧ acc = .int .i64 ((chF turF n k : Nat) : Int)) (fun _ v => 13 - (intOf v).toNat)
  case atStart => exact ⟨0, by omega, rfl, rfl⟩
  case round =>
    obtain ⟨k, hk, rfl, rfl⟩ := hrel
    clear HS
    by_cases h13 : k < 13
    · have hdi : decide ((k : Int) < 13) = true := by simp; omega
      cases hq : n.testBit k
      · have HF := hid (chF_miss (f := turF) hq)
        have HQ := hid hq
        clear hq
        go_wp2_with (first | (go_at_call 32; (with_reducible refine (l3Has_any n k hn h13 _).mono ?_); rintro e w' ⟨rfl, rfl⟩; rw [HQ.out]))
        go_round
        case rel => exact ⟨k + 1, by omega, by go_num, by rw [HF.out]⟩
        case measure => simp [intOf]; omega
      · have HF := hid ((i64_or _ _ (chF_lt (fun _ => turF_lt) hk) (pow_lt (turF_lt h13))).trans (congrArg _ (chF_hit (f := turF) hq).symm))
        have HQ := hid hq
        have HP := hid (sh_wrap (turF_lt h13))
        clear hq
        go_wp2_with (first | (go_at_call 32; (with_reducible refine (l3Has_any n k hn h13 _).mono ?_); rintro e w' ⟨rfl, rfl⟩; rw [HQ.out]))
        go_round
        case rel => exact ⟨k + 1, by omega, by go_num, ret_val (by rw [show 12 - k = turF k from rfl, HP.out]; exact HF.out)⟩
        case measure => simp [intOf]; omega
    · obtain rfl : k = 13 := by omega
      have hdi : decide (((13 : Nat) : Int) < 13) = false := by simp
      go_wp2
      go_ret
      exact ⟨rfl, rfl⟩
set_option maxHeartbeats 1000000 in
theorem l3Mirror_any (n : Nat) (hn : n < 8192) (w : World) :
    Calls Tryd.prog 45 #[.int .i64 n] w fun e w' => e = .returned (.int .i64 ((chN miN n : Nat) : Int)) ∧ Below w.heap.size w w' := by
  have HS := AllLt.start w; go_enter Tryd.func45, Tryd.ntmps45
  go_wp2
  go_loopw [3, 4] (fun acc v wr => ∃ k : Nat, k ≤ 13 ∧ v = .int .i64 k ∧ acc = .int .i64 ((chF miN n k : Nat) : Int) ∧ Hid (Below w.heap.size w wr)) (fun _ v _ => 13 - (intOf v).toNat)
  case atStart => exact ⟨0, by omega, rfl, rfl, hid (Below.refl _ _)⟩
  case round =>
    obtain ⟨k, hk, rfl, rfl, HB⟩ := hrel
    clear HS
    by_cases h13 : k < 13
    · have hdi : decide ((k : Int) < 13) = true := by simp; omega
      cases hq : n.testBit k
      · have HF := hid (chF_miss (f := miN) hq)
        have HQ := hid hq
        clear hq
        go_wp2_with (first | (go_at_call 32; (with_reducible refine (l3Has_any n k hn h13 _).mono ?_); rintro e w' ⟨rfl, rfl⟩; rw [HQ.out]))
        go_roundw
        case rel => exact ⟨k + 1, by omega, by go_num, by rw [HF.out], HB⟩
        case measure => simp [intOf]; omega
      · have HF := hid ((i64_or _ _ (chF_lt (fun _ => miN_lt) hk) (pow_lt (miN_lt h13))).trans (congrArg _ (chF_hit (f := miN) hq).symm))
        have HQ := hid hq
        have HP := hid (sh_wrap (miN_lt h13))
        clear hq
        go_wp2_with (first | (go_at_call 32; (with_reducible refine (l3Has_any n k hn h13 _).mono ?_); rintro e w' ⟨rfl, rfl⟩; rw [HQ.out]) | (go_at_call 70; (with_reducible refine (l2Mirror_any k h13 _).mono ?_); rintro e w' ⟨rfl, q, rfl⟩))
        go_roundw
        case rel => exact ⟨k + 1, by omega, by go_num, ret_val (by have hm := miN_lt h13; rw [show min (IntKind.u64.wrap ((miN k : Nat) : Int)).toNat 64 = miN k from by rw [IntKind.wrap_u64]; omega, HP.out]; exact HF.out), hid (below_drewN' HB.out _)⟩
        case measure => simp [intOf]; omega
    · obtain rfl : k = 13 := by omega
      have hdi : decide (((13 : Nat) : Int) < 13) = false := by simp
      go_wp2
      go_ret
      exact ⟨rfl, HB.out⟩
theorem iTurnRel_any (r : Int) (w : World) (hT : TB w) :
    Calls Tryd.prog 20 #[.int .i64 r] w fun e w' => e = .returned (.int .i64 (turI r)) ∧ Below w.heap.size w w' := by
  have HT := hid hT
  clear hT
  rcases rv_cases r with h | ⟨n, hn, rfl⟩
  · have H := hid h
    clear h
    have HS := AllLt.start w; go_enter Tryd.func20, Tryd.ntmps20
    go_wp2_with (first | (go_at_call 34; (with_reducible refine (iRelValid_any r _).mono ?_); rintro e w' ⟨rfl, rfl⟩; rw [H.out]))
    go_ret
    exact ⟨ret_int (turI_off H.out).symm, Below.refl _ _⟩
  · have H := hid (rv_nat n hn)
    have HO : Hid (∀ w : World, TB w → Calls Tryd.prog 44 #[.int .i64 n] w fun e w' => e = .returned (.int .i64 (chN turF n : Nat)) ∧ Below w.heap.size w w') := hid fun w hT => by
      have HT := hid hT
      clear hT
      have HS := AllLt.start w; go_enter Tryd.func44, Tryd.ntmps44
      go_wp2_with fail
      (with_reducible refine (changed_turned n hn _ HT.out).mono ?_)
      rintro e w' ⟨rfl, hb⟩
      go_wp2
      go_ret
      exact ⟨rfl, hb⟩
    have HS := AllLt.start w; go_enter Tryd.func20, Tryd.ntmps20
    go_wp2_with (first | (go_at_call 34; (with_reducible refine (iRelValid_any _ _).mono ?_); rintro e w' ⟨rfl, rfl⟩; rw [H.out]) | (go_at_call 44; (with_reducible refine (HO.out _ HT.out).mono ?_); rintro e w' ⟨rfl, hb⟩))
    go_ret
    exact ⟨ret_int (turI_on hn).symm, hb⟩
theorem sTurnRel_any (r : Int) (w : World) :
    Calls Tryd.prog 19 #[.int .i64 r] w fun e w' => e = .returned (.int .i64 (turI r)) ∧ Below w.heap.size w w' := by
  rcases rv_cases r with h | ⟨n, hn, rfl⟩
  · have H := hid h
    clear h
    have HS := AllLt.start w; go_enter Tryd.func19, Tryd.ntmps19
    go_wp2_with (first | (go_at_call 31; (with_reducible refine (sRelValid_any r _).mono ?_); rintro e w' ⟨rfl, rfl⟩; rw [H.out]))
    go_ret
    exact ⟨ret_int (turI_off H.out).symm, Below.refl _ _⟩
  · have H := hid (rv_nat n hn)
    have HS := AllLt.start w; go_enter Tryd.func19, Tryd.ntmps19
    go_wp2_with (first | (go_at_call 31; (with_reducible refine (sRelValid_any _ _).mono ?_); rintro e w' ⟨rfl, rfl⟩; rw [H.out]) | (go_at_call 43; (with_reducible refine (l3Turn_any n hn _).mono ?_); rintro e w' ⟨rfl, rfl⟩))
    go_ret
    exact ⟨ret_int (turI_on hn).symm, Below.refl _ _⟩
theorem walk_FnExactTurnRel (a0 : Int) (w : World) (w0 : (Lit.int .i64 a0).wf = true) (hB : TB w) :
    Calls Tryd.prog 6 #[.int .i64 a0] w fun e w' => e = .returned (.bool true) ∧ Below w.heap.size w w' := by
  clear w0
  have HT := hid hB
  clear hB
  have HS := AllLt.start w; go_enter Tryd.func6, Tryd.ntmps6
  go_wp2_with (first | (go_at_call 19; (with_reducible refine (sTurnRel_any _ _).mono ?_); rintro e w' ⟨rfl, hb⟩; obtain ⟨HB, hz0, hz, hc, hf⟩ := bst (w0 := w) (by go_grown) hb; clear hb; (try simp at hz); (first | ((refine HS.g5 (m := w'.heap.size) ?_ ?_); (focus omega); intro HS) | ((refine HS.g4 (m := w'.heap.size) ?_ ?_); (focus omega); intro HS) | ((refine HS.g3 (m := w'.heap.size) ?_ ?_); (focus omega); intro HS) | ((refine HS.g2 (m := w'.heap.size) ?_ ?_); (focus omega); intro HS) | ((refine HS.g1 (m := w'.heap.size) ?_ ?_); (focus omega); intro HS) | ((refine HS.g0 (m := w'.heap.size) ?_ ?_); (focus omega); intro HS)); have HU := HS; simp only [AllLt] at HU) | (go_at_call 20; (with_reducible refine (iTurnRel_any _ _ (HT.out.below (by go_grown))).mono ?_); rintro e w' ⟨rfl, hb⟩; obtain ⟨HB, hz0, hz, hc, hf⟩ := bst (w0 := w) (by go_grown) hb; clear hb; (try simp at hz); (first | ((refine HS.g5 (m := w'.heap.size) ?_ ?_); (focus omega); intro HS) | ((refine HS.g4 (m := w'.heap.size) ?_ ?_); (focus omega); intro HS) | ((refine HS.g3 (m := w'.heap.size) ?_ ?_); (focus omega); intro HS) | ((refine HS.g2 (m := w'.heap.size) ?_ ?_); (focus omega); intro HS) | ((refine HS.g1 (m := w'.heap.size) ?_ ?_); (focus omega); intro HS) | ((refine HS.g0 (m := w'.heap.size) ?_ ?_); (focus omega); intro HS)); have HU := HS; simp only [AllLt] at HU))
  go_ret
  exact ⟨rfl, by (repeat' (first | (with_reducible exact Below.refl _ _) | (with_reducible refine Below.setCell ?_ ?_ _) | (with_reducible refine below_drewN' ?_ _) | (with_reducible refine below_drew' ?_) | (with_reducible refine Below.alloc ?_ ?_ _) | (with_reducible assumption) | go_size))⟩
theorem iMirrorRel_any (r : Int) (w : World) (hT : TB w) :
    Calls Tryd.prog 22 #[.int .i64 r] w fun e w' => e = .returned (.int .i64 (mirI r)) ∧ Below w.heap.size w w' := by
  have HT := hid hT
  clear hT
  rcases rv_cases r with h | ⟨n, hn, rfl⟩
  · have H := hid h
    clear h
    have HS := AllLt.start w; go_enter Tryd.func22, Tryd.ntmps22
    go_wp2_with (first | (go_at_call 34; (with_reducible refine (iRelValid_any r _).mono ?_); rintro e w' ⟨rfl, rfl⟩; rw [H.out]))
    go_ret
    exact ⟨ret_int (mirI_off H.out).symm, Below.refl _ _⟩
  · have H := hid (rv_nat n hn)
    have HO : Hid (∀ w : World, TB w → Calls Tryd.prog 46 #[.int .i64 n] w fun e w' => e = .returned (.int .i64 (chN miN n : Nat)) ∧ Below w.heap.size w w') := hid fun w hT => by
      have HT := hid hT
      clear hT
      have HS := AllLt.start w; go_enter Tryd.func46, Tryd.ntmps46
      go_wp2_with fail
      (with_reducible refine (changed_mirrored n hn _ HT.out).mono ?_)
      rintro e w' ⟨rfl, hb⟩
      go_wp2
      go_ret
      exact ⟨rfl, hb⟩
    have HS := AllLt.start w; go_enter Tryd.func22, Tryd.ntmps22
    go_wp2_with (first | (go_at_call 34; (with_reducible refine (iRelValid_any _ _).mono ?_); rintro e w' ⟨rfl, rfl⟩; rw [H.out]) | (go_at_call 46; (with_reducible refine (HO.out _ HT.out).mono ?_); rintro e w' ⟨rfl, hb⟩))
    go_ret
    exact ⟨ret_int (mirI_on hn).symm, hb⟩
theorem sMirrorRel_any (r : Int) (w : World) :
    Calls Tryd.prog 21 #[.int .i64 r] w fun e w' => e = .returned (.int .i64 (mirI r)) ∧ Below w.heap.size w w' := by
  rcases rv_cases r with h | ⟨n, hn, rfl⟩
  · have H := hid h
    clear h
    have HS := AllLt.start w; go_enter Tryd.func21, Tryd.ntmps21
    go_wp2_with (first | (go_at_call 31; (with_reducible refine (sRelValid_any r _).mono ?_); rintro e w' ⟨rfl, rfl⟩; rw [H.out]))
    go_ret
    exact ⟨ret_int (mirI_off H.out).symm, Below.refl _ _⟩
  · have H := hid (rv_nat n hn)
    have HS := AllLt.start w; go_enter Tryd.func21, Tryd.ntmps21
    go_wp2_with (first | (go_at_call 31; (with_reducible refine (sRelValid_any _ _).mono ?_); rintro e w' ⟨rfl, rfl⟩; rw [H.out]) | (go_at_call 45; (with_reducible refine (l3Mirror_any n hn _).mono ?_); rintro e w' ⟨rfl, hb⟩))
    go_ret
    exact ⟨ret_int (mirI_on hn).symm, hb⟩
theorem walk_FnExactMirrorRel (a0 : Int) (w : World) (w0 : (Lit.int .i64 a0).wf = true) (hB : TB w) :
    Calls Tryd.prog 7 #[.int .i64 a0] w fun e w' => e = .returned (.bool true) ∧ Below w.heap.size w w' := by
  clear w0
  have HT := hid hB
  clear hB
  have HS := AllLt.start w; go_enter Tryd.func7, Tryd.ntmps7
  go_wp2_with (first | (go_at_call 21; (with_reducible refine (sMirrorRel_any _ _).mono ?_); rintro e w' ⟨rfl, hb⟩; obtain ⟨HB, hz0, hz, hc, hf⟩ := bst (w0 := w) (by go_grown) hb; clear hb; (try simp at hz); (first | ((refine HS.g5 (m := w'.heap.size) ?_ ?_); (focus omega); intro HS) | ((refine HS.g4 (m := w'.heap.size) ?_ ?_); (focus omega); intro HS) | ((refine HS.g3 (m := w'.heap.size) ?_ ?_); (focus omega); intro HS) | ((refine HS.g2 (m := w'.heap.size) ?_ ?_); (focus omega); intro HS) | ((refine HS.g1 (m := w'.heap.size) ?_ ?_); (focus omega); intro HS) | ((refine HS.g0 (m := w'.heap.size) ?_ ?_); (focus omega); intro HS)); have HU := HS; simp only [AllLt] at HU) | (go_at_call 22; (with_reducible refine (iMirrorRel_any _ _ (HT.out.below (by go_grown))).mono ?_); rintro e w' ⟨rfl, hb⟩; obtain ⟨HB, hz0, hz, hc, hf⟩ := bst (w0 := w) (by go_grown) hb; clear hb; (try simp at hz); (first | ((refine HS.g5 (m := w'.heap.size) ?_ ?_); (focus omega); intro HS) | ((refine HS.g4 (m := w'.heap.size) ?_ ?_); (focus omega); intro HS) | ((refine HS.g3 (m := w'.heap.size) ?_ ?_); (focus omega); intro HS) | ((refine HS.g2 (m := w'.heap.size) ?_ ?_); (focus omega); intro HS) | ((refine HS.g1 (m := w'.heap.size) ?_ ?_); (focus omega); intro HS) | ((refine HS.g0 (m := w'.heap.size) ?_ ?_); (focus omega); intro HS)); have HU := HS; simp only [AllLt] at HU))
  go_ret
  exact ⟨rfl, by (repeat' (first | (with_reducible exact Below.refl _ _) | (with_reducible refine Below.setCell ?_ ?_ _) | (with_reducible refine below_drewN' ?_ _) | (with_reducible refine below_drew' ?_) | (with_reducible refine Below.alloc ?_ ?_ _) | (with_reducible assumption) | go_size))⟩
end Go.Proofs.YthldegohihkkiaaDoor.C
