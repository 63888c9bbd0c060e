/- The exact laws of one relation: how many basic ones, all others, turned and mirrored. -/
import Derived.Test.YthldegohihkkiabDoorRel
namespace Go.Proofs.YthldegohihkkiabDoor.C
open Go.RowKit
set_option linter.unusedVariables false
set_option linter.unusedSimpArgs false
/-- two functions of numbers below 8192 that agree -/
theorem by_all {f g : Nat → Int} (h : all8192 (fun n => decide (f n = g n)) = true) (n : Nat) (hn : n < 8192) : f n = g n := of_decide_eq_true (all8192_of h n hn)
theorem iOtherRel_any (r : Int) (w : World) :
    Calls Tryd.prog 32 #[.int .i64 r] w fun e w' => e = .returned (.int .i64 (othI r)) ∧ w = w' := by
  rcases rv_cases r with h | ⟨n, hn, rfl⟩
  · have H := hid h
    clear h
    have HS := AllLt.start w; go_enter Tryd.func32, Tryd.ntmps32
    go_wp2_with (first | (go_at_call 17; (with_reducible refine (iRelValid_any r _).mono ?_); rintro e w' ⟨rfl, rfl⟩; rw [H.out]))
    go_ret
    exact ⟨ret_int (othI_off H.out).symm, rfl⟩
  · have H := hid (rv_nat n hn)
    have HO : Hid (∀ w : World, Calls Tryd.prog 96 #[.int .i64 n] w fun e w' => e = .returned (.int .i64 (8191 - n)) ∧ w = w') := hid fun w => by
      have HS := AllLt.start w; go_enter Tryd.func96, Tryd.ntmps96
      go_wp2
      go_ret
      exact ⟨ret_int (andNot_on hn), rfl⟩
    have HS := AllLt.start w; go_enter Tryd.func32, Tryd.ntmps32
    go_wp2_with (first | (go_at_call 17; (with_reducible refine (iRelValid_any _ _).mono ?_); rintro e w' ⟨rfl, rfl⟩; rw [H.out]) | (go_at_call 96; (with_reducible refine (HO.out _).mono ?_); rintro e w' ⟨rfl, rfl⟩))
    go_ret
    exact ⟨ret_int (othI_on H.out).symm, rfl⟩
theorem sOtherRel_any (r : Int) (w : World) :
    Calls Tryd.prog 36 #[.int .i64 r] w fun e w' => e = .returned (.int .i64 (othI r)) ∧ w = w' := by
  rcases rv_cases r with h | ⟨n, hn, rfl⟩
  · have H := hid h
    clear h
    have HS := AllLt.start w; go_enter Tryd.func36, Tryd.ntmps36
    go_wp2_with (first | (go_at_call 18; (with_reducible refine (sRelValid_any r _).mono ?_); rintro e w' ⟨rfl, rfl⟩; rw [H.out]))
    go_ret
    exact ⟨ret_int (othI_off H.out).symm, rfl⟩
  · have H := hid (rv_nat n hn)
    have HS := AllLt.start w; go_enter Tryd.func36, Tryd.ntmps36
    go_wp2_with (first | (go_at_call 18; (with_reducible refine (sRelValid_any _ _).mono ?_); rintro e w' ⟨rfl, rfl⟩; rw [H.out]))
    go_ret
    exact ⟨ret_int (by rw [othI_on H.out]; exact andNot_on hn), rfl⟩
theorem ones64_any (n : Nat) (hn : n < 8192) (w : World) :
    Calls Tryd.prog 152 #[.int .u64 n] w fun e w' => e = .returned (.int .i64 (onesN 13 n : Nat)) ∧ w = w' := by
  have HS := AllLt.start w; go_enter Tryd.func152, Tryd.ntmps152
  go_wp2
  go_ret
  refine ⟨ret_int ?_, rfl⟩
  revert n
  refine by_all ?_
  decide +kernel
theorem iCountBasics_any (r : Int) (w : World) :
    Calls Tryd.prog 20 #[.int .i64 r] w fun e w' => e = .returned (.int .i64 (cnI r)) ∧ w = w' := by
  rcases rv_cases r with h | ⟨n, hn, rfl⟩
  · have H := hid h
    clear h
    have HS := AllLt.start w; go_enter Tryd.func20, Tryd.ntmps20
    go_wp2_with (first | (go_at_call 17; (with_reducible refine (iRelValid_any r _).mono ?_); rintro e w' ⟨rfl, rfl⟩; rw [H.out]))
    go_ret
    exact ⟨ret_int (cnI_off H.out).symm, rfl⟩
  · have H := hid (rv_nat n hn)
    have hu : IntKind.u64.wrap (n : Int) = (n : Int) := by rw [IntKind.wrap_u64]; omega
    have HO : Hid (∀ w : World, Calls Tryd.prog 81 #[.int .i64 n] w fun e w' => e = .returned (.int .i64 (onesN 13 n : Nat)) ∧ w = w') := hid fun w => by
      have HC : Hid (∀ w : World, Calls Tryd.prog 132 #[.int .u64 n] w fun e w' => e = .returned (.int .i64 (onesN 13 n : Nat)) ∧ w = w') := hid fun w => by
        have HS := AllLt.start w; go_enter Tryd.func132, Tryd.ntmps132
        go_wp2_with (first | (go_at_call 152; (with_reducible refine (ones64_any n hn _).mono ?_); rintro e w' ⟨rfl, rfl⟩))
        go_ret
        exact ⟨rfl, rfl⟩
      have HS := AllLt.start w; go_enter Tryd.func81, Tryd.ntmps81
      go_wp2_with (first | (go_at_call 132; (with_reducible refine (HC.out _).mono ?_); rintro e w' ⟨rfl, rfl⟩))
      go_ret
      exact ⟨rfl, rfl⟩
    have HS := AllLt.start w; go_enter Tryd.func20, Tryd.ntmps20
    go_wp2_with (first | (go_at_call 17; (with_reducible refine (iRelValid_any _ _).mono ?_); rintro e w' ⟨rfl, rfl⟩; rw [H.out]) | (go_at_call 81; (with_reducible refine (HO.out _).mono ?_); rintro e w' ⟨rfl, rfl⟩))
    go_ret
    exact ⟨ret_int (cnI_on hn).symm, rfl⟩
theorem l1Ones_any (n : Nat) (hn : n < 8192) (w : World) :
    Calls Tryd.prog 82 #[.int .i64 n] w fun e w' => e = .returned (.int .i64 (onesN 13 n : Nat)) ∧ w = w' := by
  have HS := AllLt.start w; go_enter Tryd.func82, Tryd.ntmps82
  go_wp2
  go_loop [0, 3] (fun a b => ∃ f x y : Nat, a = .int .i64 x ∧ b = .int .i64 y ∧ f ≤ 13 ∧ x < 2 ^ f ∧ y ≤ 13 - f ∧ Hid (y + onesN f x = onesN 13 n)) (fun a _ => (intOf a).toNat)
  case atStart => exact ⟨13, n, 0, rfl, rfl, by omega, hn, by omega, hid (by omega)⟩
  case round =>
    obtain ⟨f, x, y, rfl, rfl, hf, hx, hy, HF⟩ := hrel
    by_cases h0 : x = 0
    · subst h0
      have h1 : onesN f 0 = 0 := by
        clear hx HF hy hf
        induction f with
        | zero => rfl
        | succ f ih => simp only [onesN]; simpa using ih
      have hr : y = onesN 13 n := by rw [← HF.out, h1]; rfl
      clear HF
      go_wp2
      go_ret
      exact ⟨ret_int (by first | rw [hr] | rfl), rfl⟩
    · obtain ⟨g, rfl⟩ : ∃ g, f = g + 1 := by
        cases f with
        | zero => simp at hx; omega
        | succ g => exact ⟨g, rfl⟩
      have hp : decide ((0 : Int) < (x : Int)) = true := by simp; omega
      have hb : bits .and .i64 (x : Int) 1 = ((x % 2 : Nat) : Int) := by
        have hx2 : x < 8192 := Nat.lt_of_lt_of_le hx (Nat.pow_le_pow_right (n := 2) (by omega) (show g + 1 ≤ 13 by omega))
        rw [show (1 : Int) = ((1 : Nat) : Int) from rfl, i64_and x 1 hx2 (by omega), Nat.and_one_is_mod]
      have hs : y + x % 2 + onesN g (x / 2) = onesN 13 n := by rw [← HF.out]; simp only [onesN]; omega
      have HF2 := hid hs
      have hx3 : x / 2 < 2 ^ g := by rw [Nat.pow_succ] at hx; omega
      have hx4 : x < 2 ^ 13 := Nat.lt_of_lt_of_le hx (Nat.pow_le_pow_right (n := 2) (by omega) (show g + 1 ≤ 13 by omega))
      clear HF hs
      go_wp2
      go_round
      case rel => exact ⟨g, x / 2, y + x % 2, by go_num, by go_num, by omega, hx3, by omega, HF2⟩
      case measure => simp [intOf]; omega
theorem sCountBasics_any (r : Int) (w : World) :
    Calls Tryd.prog 21 #[.int .i64 r] w fun e w' => e = .returned (.int .i64 (cnI r)) ∧ w = w' := by
  rcases rv_cases r with h | ⟨n, hn, rfl⟩
  · have H := hid h
    clear h
    have HS := AllLt.start w; go_enter Tryd.func21, Tryd.ntmps21
    go_wp2_with (first | (go_at_call 18; (with_reducible refine (sRelValid_any r _).mono ?_); rintro e w' ⟨rfl, rfl⟩; rw [H.out]))
    go_ret
    exact ⟨ret_int (cnI_off H.out).symm, rfl⟩
  · have H := hid (rv_nat n hn)
    have HS := AllLt.start w; go_enter Tryd.func21, Tryd.ntmps21
    go_wp2_with (first | (go_at_call 18; (with_reducible refine (sRelValid_any _ _).mono ?_); rintro e w' ⟨rfl, rfl⟩; rw [H.out]) | (go_at_call 82; (with_reducible refine (l1Ones_any n hn _).mono ?_); rintro e w' ⟨rfl, rfl⟩))
    go_ret
    exact ⟨ret_int (cnI_on hn).symm, rfl⟩
set_option maxHeartbeats 1000000 in
theorem l3Turn_any (n : Nat) (hn : n < 8192) (w : World) :
    Calls Tryd.prog 97 #[.int .i64 n] w fun e w' => e = .returned (.int .i64 ((chN turF n : Nat) : Int)) ∧ w = w' := by
  have HS := AllLt.start w; go_enter Tryd.func97, Tryd.ntmps97
  go_wp2
  go_loop [3, 4] (fun acc v => ∃ k : Nat, k ≤ 13 ∧ v = .int .i64 k ∧ acc = .int .i64 ((chF turF n k : Nat) : Int)) (fun _ v => 13 - (intOf v).toNat)
  case atStart => exact ⟨0, by omega, rfl, rfl⟩
  case round =>
    obtain ⟨k, hk, rfl, rfl⟩ := hrel
    clear HS
    by_cases h13 : k < 13
    · have hdi : decide ((k : Int) < 13) = true := by simp; omega
      cases hq : n.testBit k
      · have HF := hid (chF_miss (f := turF) hq)
        have HQ := hid hq
        clear hq
        go_wp2_with (first | (go_at_call 77; (with_reducible refine (l3Has_any n k hn h13 _).mono ?_); rintro e w' ⟨rfl, rfl⟩; rw [HQ.out]))
        go_round
        case rel => exact ⟨k + 1, by omega, by go_num, by rw [HF.out]⟩
        case measure => simp [intOf]; omega
      · have HF := hid ((i64_or _ _ (chF_lt (fun _ => turF_lt) hk) (pow_lt (turF_lt h13))).trans (congrArg _ (chF_hit (f := turF) hq).symm))
        have HQ := hid hq
        have HP := hid (sh_wrap (turF_lt h13))
        clear hq
        go_wp2_with (first | (go_at_call 77; (with_reducible refine (l3Has_any n k hn h13 _).mono ?_); rintro e w' ⟨rfl, rfl⟩; rw [HQ.out]))
        go_round
        case rel => exact ⟨k + 1, by omega, by go_num, ret_val (by rw [show 12 - k = turF k from rfl, HP.out]; exact HF.out)⟩
        case measure => simp [intOf]; omega
    · obtain rfl : k = 13 := by omega
      have hdi : decide (((13 : Nat) : Int) < 13) = false := by simp
      go_wp2
      go_ret
      exact ⟨rfl, rfl⟩
set_option maxHeartbeats 1000000 in
theorem l3Mirror_any (n : Nat) (hn : n < 8192) (w : World) :
    Calls Tryd.prog 98 #[.int .i64 n] w fun e w' => e = .returned (.int .i64 ((chN miN n : Nat) : Int)) ∧ Below w.heap.size w w' := by
  have HS := AllLt.start w; go_enter Tryd.func98, Tryd.ntmps98
  go_wp2
  go_loopw [3, 4] (fun acc v wr => ∃ k : Nat, k ≤ 13 ∧ v = .int .i64 k ∧ acc = .int .i64 ((chF miN n k : Nat) : Int) ∧ Hid (Below w.heap.size w wr)) (fun _ v _ => 13 - (intOf v).toNat)
  case atStart => exact ⟨0, by omega, rfl, rfl, hid (Below.refl _ _)⟩
  case round =>
    obtain ⟨k, hk, rfl, rfl, HB⟩ := hrel
    clear HS
    by_cases h13 : k < 13
    · have hdi : decide ((k : Int) < 13) = true := by simp; omega
      cases hq : n.testBit k
      · have HF := hid (chF_miss (f := miN) hq)
        have HQ := hid hq
        clear hq
        go_wp2_with (first | (go_at_call 77; (with_reducible refine (l3Has_any n k hn h13 _).mono ?_); rintro e w' ⟨rfl, rfl⟩; rw [HQ.out]))
        go_roundw
        case rel => exact ⟨k + 1, by omega, by go_num, by rw [HF.out], HB⟩
        case measure => simp [intOf]; omega
      · have HF := hid ((i64_or _ _ (chF_lt (fun _ => miN_lt) hk) (pow_lt (miN_lt h13))).trans (congrArg _ (chF_hit (f := miN) hq).symm))
        have HQ := hid hq
        have HP := hid (sh_wrap (miN_lt h13))
        clear hq
        go_wp2_with (first | (go_at_call 77; (with_reducible refine (l3Has_any n k hn h13 _).mono ?_); rintro e w' ⟨rfl, rfl⟩; rw [HQ.out]) | (go_at_call 112; (with_reducible refine (l2Mirror_any k h13 _).mono ?_); rintro e w' ⟨rfl, q, rfl⟩))
        go_roundw
        case rel => exact ⟨k + 1, by omega, by go_num, ret_val (by have hm := miN_lt h13; rw [show min (IntKind.u64.wrap ((miN k : Nat) : Int)).toNat 64 = miN k from by rw [IntKind.wrap_u64]; omega, HP.out]; exact HF.out), hid (below_drewN' HB.out _)⟩
        case measure => simp [intOf]; omega
    · obtain rfl : k = 13 := by omega
      have hdi : decide (((13 : Nat) : Int) < 13) = false := by simp
      go_wp2
      go_ret
      exact ⟨rfl, HB.out⟩
theorem iTurnRel_any (r : Int) (w : World) (hT : TB w) :
    Calls Tryd.prog 30 #[.int .i64 r] w fun e w' => e = .returned (.int .i64 (turI r)) ∧ Below w.heap.size w w' := by
  have HT := hid hT
  clear hT
  rcases rv_cases r with h | ⟨n, hn, rfl⟩
  · have H := hid h
    clear h
    have HS := AllLt.start w; go_enter Tryd.func30, Tryd.ntmps30
    go_wp2_with (first | (go_at_call 17; (with_reducible refine (iRelValid_any r _).mono ?_); rintro e w' ⟨rfl, rfl⟩; rw [H.out]))
    go_ret
    exact ⟨ret_int (turI_off H.out).symm, Below.refl _ _⟩
  · have H := hid (rv_nat n hn)
    have HO : Hid (∀ w : World, TB w → Calls Tryd.prog 94 #[.int .i64 n] w fun e w' => e = .returned (.int .i64 (chN turF n : Nat)) ∧ Below w.heap.size w w') := hid fun w hT => by
      have HT := hid hT
      clear hT
      have HS := AllLt.start w; go_enter Tryd.func94, Tryd.ntmps94
      go_wp2_with fail
      (with_reducible refine (changed_turned n hn _ HT.out).mono ?_)
      rintro e w' ⟨rfl, hb⟩
      go_wp2
      go_ret
      exact ⟨rfl, hb⟩
    have HS := AllLt.start w; go_enter Tryd.func30, Tryd.ntmps30
    go_wp2_with (first | (go_at_call 17; (with_reducible refine (iRelValid_any _ _).mono ?_); rintro e w' ⟨rfl, rfl⟩; rw [H.out]) | (go_at_call 94; (with_reducible refine (HO.out _ HT.out).mono ?_); rintro e w' ⟨rfl, hb⟩))
    go_ret
    exact ⟨ret_int (turI_on hn).symm, hb⟩
theorem sTurnRel_any (r : Int) (w : World) :
    Calls Tryd.prog 34 #[.int .i64 r] w fun e w' => e = .returned (.int .i64 (turI r)) ∧ Below w.heap.size w w' := by
  rcases rv_cases r with h | ⟨n, hn, rfl⟩
  · have H := hid h
    clear h
    have HS := AllLt.start w; go_enter Tryd.func34, Tryd.ntmps34
    go_wp2_with (first | (go_at_call 18; (with_reducible refine (sRelValid_any r _).mono ?_); rintro e w' ⟨rfl, rfl⟩; rw [H.out]))
    go_ret
    exact ⟨ret_int (turI_off H.out).symm, Below.refl _ _⟩
  · have H := hid (rv_nat n hn)
    have HS := AllLt.start w; go_enter Tryd.func34, Tryd.ntmps34
    go_wp2_with (first | (go_at_call 18; (with_reducible refine (sRelValid_any _ _).mono ?_); rintro e w' ⟨rfl, rfl⟩; rw [H.out]) | (go_at_call 97; (with_reducible refine (l3Turn_any n hn _).mono ?_); rintro e w' ⟨rfl, rfl⟩))
    go_ret
    exact ⟨ret_int (turI_on hn).symm, Below.refl _ _⟩
theorem iMirrorRel_any (r : Int) (w : World) (hT : TB w) :
    Calls Tryd.prog 31 #[.int .i64 r] w fun e w' => e = .returned (.int .i64 (mirI r)) ∧ Below w.heap.size w w' := by
  have HT := hid hT
  clear hT
  rcases rv_cases r with h | ⟨n, hn, rfl⟩
  · have H := hid h
    clear h
    have HS := AllLt.start w; go_enter Tryd.func31, Tryd.ntmps31
    go_wp2_with (first | (go_at_call 17; (with_reducible refine (iRelValid_any r _).mono ?_); rintro e w' ⟨rfl, rfl⟩; rw [H.out]))
    go_ret
    exact ⟨ret_int (mirI_off H.out).symm, Below.refl _ _⟩
  · have H := hid (rv_nat n hn)
    have HO : Hid (∀ w : World, TB w → Calls Tryd.prog 95 #[.int .i64 n] w fun e w' => e = .returned (.int .i64 (chN miN n : Nat)) ∧ Below w.heap.size w w') := hid fun w hT => by
      have HT := hid hT
      clear hT
      have HS := AllLt.start w; go_enter Tryd.func95, Tryd.ntmps95
      go_wp2_with fail
      (with_reducible refine (changed_mirrored n hn _ HT.out).mono ?_)
      rintro e w' ⟨rfl, hb⟩
      go_wp2
      go_ret
      exact ⟨rfl, hb⟩
    have HS := AllLt.start w; go_enter Tryd.func31, Tryd.ntmps31
    go_wp2_with (first | (go_at_call 17; (with_reducible refine (iRelValid_any _ _).mono ?_); rintro e w' ⟨rfl, rfl⟩; rw [H.out]) | (go_at_call 95; (with_reducible refine (HO.out _ HT.out).mono ?_); rintro e w' ⟨rfl, hb⟩))
    go_ret
    exact ⟨ret_int (mirI_on hn).symm, hb⟩
theorem sMirrorRel_any (r : Int) (w : World) :
    Calls Tryd.prog 35 #[.int .i64 r] w fun e w' => e = .returned (.int .i64 (mirI r)) ∧ Below w.heap.size w w' := by
  rcases rv_cases r with h | ⟨n, hn, rfl⟩
  · have H := hid h
    clear h
    have HS := AllLt.start w; go_enter Tryd.func35, Tryd.ntmps35
    go_wp2_with (first | (go_at_call 18; (with_reducible refine (sRelValid_any r _).mono ?_); rintro e w' ⟨rfl, rfl⟩; rw [H.out]))
    go_ret
    exact ⟨ret_int (mirI_off H.out).symm, Below.refl _ _⟩
  · have H := hid (rv_nat n hn)
    have HS := AllLt.start w; go_enter Tryd.func35, Tryd.ntmps35
    go_wp2_with (first | (go_at_call 18; (with_reducible refine (sRelValid_any _ _).mono ?_); rintro e w' ⟨rfl, rfl⟩; rw [H.out]) | (go_at_call 98; (with_reducible refine (l3Mirror_any n hn _).mono ?_); rintro e w' ⟨rfl, hb⟩))
    go_ret
    exact ⟨ret_int (mirI_on hn).symm, hb⟩
end Go.Proofs.YthldegohihkkiabDoor.C
