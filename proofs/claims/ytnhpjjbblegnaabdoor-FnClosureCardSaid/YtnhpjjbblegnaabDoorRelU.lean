/- The exact laws of one relation: how many basic ones, all others, turned and mirrored. -/
import Derived.Test.YtnhpjjbblegnaabDoorRel
namespace Go.Proofs.YtnhpjjbblegnaabDoor.C
open Go.RowKit
set_option linter.unusedVariables false
set_option linter.unusedSimpArgs false
/-- two functions of numbers below 8192 that agree -/
theorem by_all {f g : Nat → Int} (h : all8192 (fun n => decide (f n = g n)) = true) (n : Nat) (hn : n < 8192) : f n = g n := of_decide_eq_true (all8192_of h n hn)
theorem iOtherRel_any (r : Int) (w : World) :
    Calls Tryd.prog 25 #[.int .i64 r] w fun e w' => e = .returned (.int .i64 (othI r)) ∧ w = w' := by
  rcases rv_cases r with h | ⟨n, hn, rfl⟩
  · have H := hid h
    clear h
    have HS := AllLt.start w; go_enter Tryd.func25, Tryd.ntmps25
    go_wp2_with (first | (go_at_call 24; (with_reducible refine (iRelValid_any r _).mono ?_); rintro e w' ⟨rfl, rfl⟩; rw [H.out]))
    go_ret
    exact ⟨ret_int (othI_off H.out).symm, rfl⟩
  · have H := hid (rv_nat n hn)
    have HO : Hid (∀ w : World, Calls Tryd.prog 81 #[.int .i64 n] w fun e w' => e = .returned (.int .i64 (8191 - n)) ∧ w = w') := hid fun w => by
      have HS := AllLt.start w; go_enter Tryd.func81, Tryd.ntmps81
      go_wp2
      go_ret
      exact ⟨ret_int (andNot_on hn), rfl⟩
    have HS := AllLt.start w; go_enter Tryd.func25, Tryd.ntmps25
    go_wp2_with (first | (go_at_call 24; (with_reducible refine (iRelValid_any _ _).mono ?_); rintro e w' ⟨rfl, rfl⟩; rw [H.out]) | (go_at_call 81; (with_reducible refine (HO.out _).mono ?_); rintro e w' ⟨rfl, rfl⟩))
    go_ret
    exact ⟨ret_int (othI_on H.out).symm, rfl⟩
theorem ones64_any (n : Nat) (hn : n < 8192) (w : World) :
    Calls Tryd.prog 172 #[.int .u64 n] w fun e w' => e = .returned (.int .i64 (onesN 13 n : Nat)) ∧ w = w' := by
  have HS := AllLt.start w; go_enter Tryd.func172, Tryd.ntmps172
  go_wp2
  go_ret
  refine ⟨ret_int ?_, rfl⟩
  revert n
  refine by_all ?_
  decide +kernel
theorem iCountBasics_any (r : Int) (w : World) :
    Calls Tryd.prog 63 #[.int .i64 r] w fun e w' => e = .returned (.int .i64 (cnI r)) ∧ w = w' := by
  rcases rv_cases r with h | ⟨n, hn, rfl⟩
  · have H := hid h
    clear h
    have HS := AllLt.start w; go_enter Tryd.func63, Tryd.ntmps63
    go_wp2_with (first | (go_at_call 24; (with_reducible refine (iRelValid_any r _).mono ?_); rintro e w' ⟨rfl, rfl⟩; rw [H.out]))
    go_ret
    exact ⟨ret_int (cnI_off H.out).symm, rfl⟩
  · have H := hid (rv_nat n hn)
    have hu : IntKind.u64.wrap (n : Int) = (n : Int) := by rw [IntKind.wrap_u64]; omega
    have HO : Hid (∀ w : World, Calls Tryd.prog 118 #[.int .i64 n] w fun e w' => e = .returned (.int .i64 (onesN 13 n : Nat)) ∧ w = w') := hid fun w => by
      have HC : Hid (∀ w : World, Calls Tryd.prog 156 #[.int .u64 n] w fun e w' => e = .returned (.int .i64 (onesN 13 n : Nat)) ∧ w = w') := hid fun w => by
        have HS := AllLt.start w; go_enter Tryd.func156, Tryd.ntmps156
        go_wp2_with (first | (go_at_call 172; (with_reducible refine (ones64_any n hn _).mono ?_); rintro e w' ⟨rfl, rfl⟩))
        go_ret
        exact ⟨rfl, rfl⟩
      have HS := AllLt.start w; go_enter Tryd.func118, Tryd.ntmps118
      go_wp2_with (first | (go_at_call 156; (with_reducible refine (HC.out _).mono ?_); rintro e w' ⟨rfl, rfl⟩))
      go_ret
      exact ⟨rfl, rfl⟩
    have HS := AllLt.start w; go_enter Tryd.func63, Tryd.ntmps63
    go_wp2_with (first | (go_at_call 24; (with_reducible refine (iRelValid_any _ _).mono ?_); rintro e w' ⟨rfl, rfl⟩; rw [H.out]) | (go_at_call 118; (with_reducible refine (HO.out _).mono ?_); rintro e w' ⟨rfl, rfl⟩))
    go_ret
    exact ⟨ret_int (cnI_on hn).symm, rfl⟩
theorem l1Ones_any (n : Nat) (hn : n < 8192) (w : World) :
    Calls Tryd.prog 119 #[.int .i64 n] w fun e w' => e = .returned (.int .i64 (onesN 13 n : Nat)) ∧ w = w' := by
  have HS := AllLt.start w; go_enter Tryd.func119, Tryd.ntmps119
  go_wp2
  go_loop [0, 3] (fun a b => ∃ f x y : Nat, a = .int .i64 x ∧ b = .int .i64 y ∧ f ≤ 13 ∧ x < 2 ^ f ∧ y ≤ 13 - f ∧ Hid (y + onesN f x = onesN 13 n)) (fun a _ => (intOf a).toNat)
  case atStart => exact ⟨13, n, 0, rfl, rfl, by omega, hn, by omega, hid (by omega)⟩
  case round =>
    obtain ⟨f, x, y, rfl, rfl, hf, hx, hy, HF⟩ := hrel
    by_cases h0 : x = 0
    · subst h0
      have h1 : onesN f 0 = 0 := by
        clear hx HF hy hf
        induction f with
        | zero => rfl
        | succ f ih => simp only [onesN]; simpa using ih
      have hr : y = onesN 13 n := by rw [← HF.out, h1]; rfl
      clear HF
      go_wp2
      go_ret
      exact ⟨ret_int (by first | rw [hr] | rfl), rfl⟩
    · obtain ⟨g, rfl⟩ : ∃ g, f = g + 1 := by
        cases f with
        | zero => simp at hx; omega
        | succ g => exact ⟨g, rfl⟩
      have hp : decide ((0 : Int) < (x : Int)) = true := by simp; omega
      have hb : bits .and .i64 (x : Int) 1 = ((x % 2 : Nat) : Int) := by
        have hx2 : x < 8192 := Nat.lt_of_lt_of_le hx (Nat.pow_le_pow_right (n := 2) (by omega) (show g + 1 ≤ 13 by omega))
        rw [show (1 : Int) = ((1 : Nat) : Int) from rfl, i64_and x 1 hx2 (by omega), Nat.and_one_is_mod]
      have hs : y + x % 2 + onesN g (x / 2) = onesN 13 n := by rw [← HF.out]; simp only [onesN]; omega
      have HF2 := hid hs
      have hx3 : x / 2 < 2 ^ g := by rw [Nat.pow_succ] at hx; omega
      have hx4 : x < 2 ^ 13 := Nat.lt_of_lt_of_le hx (Nat.pow_le_pow_right (n := 2) (by omega) (show g + 1 ≤ 13 by omega))
      clear HF hs
      go_wp2
      go_round
      case rel => exact ⟨g, x / 2, y + x % 2, by go_num, by go_num, by omega, hx3, by omega, HF2⟩
      case measure => simp [intOf]; omega
theorem sCountBasics_any (r : Int) (w : World) :
    Calls Tryd.prog 64 #[.int .i64 r] w fun e w' => e = .returned (.int .i64 (cnI r)) ∧ w = w' := by
  rcases rv_cases r with h | ⟨n, hn, rfl⟩
  · have H := hid h
    clear h
    have HS := AllLt.start w; go_enter Tryd.func64, Tryd.ntmps64
    go_wp2_with (first | (go_at_call 62; (with_reducible refine (sRelValid_any r _).mono ?_); rintro e w' ⟨rfl, rfl⟩; rw [H.out]))
    go_ret
    exact ⟨ret_int (cnI_off H.out).symm, rfl⟩
  · have H := hid (rv_nat n hn)
    have HS := AllLt.start w; go_enter Tryd.func64, Tryd.ntmps64
    go_wp2_with (first | (go_at_call 62; (with_reducible refine (sRelValid_any _ _).mono ?_); rintro e w' ⟨rfl, rfl⟩; rw [H.out]) | (go_at_call 119; (with_reducible refine (l1Ones_any n hn _).mono ?_); rintro e w' ⟨rfl, rfl⟩))
    go_ret
    exact ⟨ret_int (cnI_on hn).symm, rfl⟩
theorem iTurnRel_any (r : Int) (w : World) (hT : TB w) :
    Calls Tryd.prog 19 #[.int .i64 r] w fun e w' => e = .returned (.int .i64 (turI r)) ∧ Below w.heap.size w w' := by
  have HT := hid hT
  clear hT
  rcases rv_cases r with h | ⟨n, hn, rfl⟩
  · have H := hid h
    clear h
    have HS := AllLt.start w; go_enter Tryd.func19, Tryd.ntmps19
    go_wp2_with (first | (go_at_call 24; (with_reducible refine (iRelValid_any r _).mono ?_); rintro e w' ⟨rfl, rfl⟩; rw [H.out]))
    go_ret
    exact ⟨ret_int (turI_off H.out).symm, Below.refl _ _⟩
  · have H := hid (rv_nat n hn)
    have HO : Hid (∀ w : World, TB w → Calls Tryd.prog 77 #[.int .i64 n] w fun e w' => e = .returned (.int .i64 (chN turF n : Nat)) ∧ Below w.heap.size w w') := hid fun w hT => by
      have HT := hid hT
      clear hT
      have HS := AllLt.start w; go_enter Tryd.func77, Tryd.ntmps77
      go_wp2_with fail
      (with_reducible refine (changed_turned n hn _ HT.out).mono ?_)
      rintro e w' ⟨rfl, hb⟩
      go_wp2
      go_ret
      exact ⟨rfl, hb⟩
    have HS := AllLt.start w; go_enter Tryd.func19, Tryd.ntmps19
    go_wp2_with (first | (go_at_call 24; (with_reducible refine (iRelValid_any _ _).mono ?_); rintro e w' ⟨rfl, rfl⟩; rw [H.out]) | (go_at_call 77; (with_reducible refine (HO.out _ HT.out).mono ?_); rintro e w' ⟨rfl, hb⟩))
    go_ret
    exact ⟨ret_int (turI_on hn).symm, hb⟩
theorem iMirrorRel_any (r : Int) (w : World) (hT : TB w) :
    Calls Tryd.prog 20 #[.int .i64 r] w fun e w' => e = .returned (.int .i64 (mirI r)) ∧ Below w.heap.size w w' := by
  have HT := hid hT
  clear hT
  rcases rv_cases r with h | ⟨n, hn, rfl⟩
  · have H := hid h
    clear h
    have HS := AllLt.start w; go_enter Tryd.func20, Tryd.ntmps20
    go_wp2_with (first | (go_at_call 24; (with_reducible refine (iRelValid_any r _).mono ?_); rintro e w' ⟨rfl, rfl⟩; rw [H.out]))
    go_ret
    exact ⟨ret_int (mirI_off H.out).symm, Below.refl _ _⟩
  · have H := hid (rv_nat n hn)
    have HO : Hid (∀ w : World, TB w → Calls Tryd.prog 78 #[.int .i64 n] w fun e w' => e = .returned (.int .i64 (chN miN n : Nat)) ∧ Below w.heap.size w w') := hid fun w hT => by
      have HT := hid hT
      clear hT
      have HS := AllLt.start w; go_enter Tryd.func78, Tryd.ntmps78
      go_wp2_with fail
      (with_reducible refine (changed_mirrored n hn _ HT.out).mono ?_)
      rintro e w' ⟨rfl, hb⟩
      go_wp2
      go_ret
      exact ⟨rfl, hb⟩
    have HS := AllLt.start w; go_enter Tryd.func20, Tryd.ntmps20
    go_wp2_with (first | (go_at_call 24; (with_reducible refine (iRelValid_any _ _).mono ?_); rintro e w' ⟨rfl, rfl⟩; rw [H.out]) | (go_at_call 78; (with_reducible refine (HO.out _ HT.out).mono ?_); rintro e w' ⟨rfl, hb⟩))
    go_ret
    exact ⟨ret_int (mirI_on hn).symm, hb⟩
end Go.Proofs.YtnhpjjbblegnaabDoor.C
