/- The exact laws of one relation: how many basic ones, all others, turned and mirrored. -/
import Derived.Test.YtlmmjdaipedjjaaDoorRel
namespace Go.Proofs.YtlmmjdaipedjjaaDoor.C
open Go.RowKit
set_option linter.unusedVariables false
set_option linter.unusedSimpArgs false
/-- two functions of numbers below 8192 that agree -/
theorem by_all {f g : Nat → Int} (h : all8192 (fun n => decide (f n = g n)) = true) (n : Nat) (hn : n < 8192) : f n = g n := of_decide_eq_true (all8192_of h n hn)
theorem ones64_any (n : Nat) (hn : n < 8192) (w : World) :
    Calls Tryd.prog 118 #[.int .u64 n] w fun e w' => e = .returned (.int .i64 (onesN 13 n : Nat)) ∧ w = w' := by
  have HS := AllLt.start w; go_enter Tryd.func118, Tryd.ntmps118
  go_wp2
  go_ret
  refine ⟨ret_int ?_, rfl⟩
  revert n
  refine by_all ?_
  decide +kernel
theorem l1Ones_any (n : Nat) (hn : n < 8192) (w : World) :
    Calls Tryd.prog 84 #[.int .i64 n] w fun e w' => e = .returned (.int .i64 (onesN 13 n : Nat)) ∧ w = w' := by
  have HS := AllLt.start w; go_enter Tryd.func84, Tryd.ntmps84
  go_wp2
  go_loop [0, 3] (fun a b => ∃ f x y : Nat, a = .int .i64 x ∧ b = .int .i64 y ∧ f ≤ 13 ∧ x < 2 ^ f ∧ y ≤ 13 - f ∧ Hid (y + onesN f x = onesN 13 n)) (fun a _ => (intOf a).toNat)
  case atStart => exact ⟨13, n, 0, rfl, rfl, by omega, hn, by omega, hid (by omega)⟩
  case round =>
    obtain ⟨f, x, y, rfl, rfl, hf, hx, hy, HF⟩ := hrel
    by_cases h0 : x = 0
    · subst h0
      have h1 : onesN f 0 = 0 := by
        clear hx HF hy hf
        induction f with
        | zero => rfl
        | succ f ih => simp only [onesN]; simpa using ih
      have hr : y = onesN 13 n := by rw [← HF.out, h1]; rfl
      clear HF
      go_wp2
      go_ret
      exact ⟨ret_int (by first | rw [hr] | rfl), rfl⟩
    · obtain ⟨g, rfl⟩ : ∃ g, f = g + 1 := by
        cases f with
        | zero => simp at hx; omega
        | succ g => exact ⟨g, rfl⟩
      have hp : decide ((0 : Int) < (x : Int)) = true := by simp; omega
      have hb : bits .and .i64 (x : Int) 1 = ((x % 2 : Nat) : Int) := by
        have hx2 : x < 8192 := Nat.lt_of_lt_of_le hx (Nat.pow_le_pow_right (n := 2) (by omega) (show g + 1 ≤ 13 by omega))
        rw [show (1 : Int) = ((1 : Nat) : Int) from rfl, i64_and x 1 hx2 (by omega), Nat.and_one_is_mod]
      have hs : y + x % 2 + onesN g (x / 2) = onesN 13 n := by rw [← HF.out]; simp only [onesN]; omega
      have HF2 := hid hs
      have hx3 : x / 2 < 2 ^ g := by rw [Nat.pow_succ] at hx; omega
      have hx4 : x < 2 ^ 13 := Nat.lt_of_lt_of_le hx (Nat.pow_le_pow_right (n := 2) (by omega) (show g + 1 ≤ 13 by omega))
      clear HF hs
      go_wp2
      go_round
      case rel => exact ⟨g, x / 2, y + x % 2, by go_num, by go_num, by omega, hx3, by omega, HF2⟩
      case measure => simp [intOf]; omega
set_option maxHeartbeats 1000000 in
theorem l3Turn_any (n : Nat) (hn : n < 8192) (w : World) :
    Calls Tryd.prog 80 #[.int .i64 n] w fun e w' => e = .returned (.int .i64 ((chN turF n : Nat) : Int)) ∧ w = w' := by
  have HS := AllLt.start w; go_enter Tryd.func80, Tryd.ntmps80
  go_wp2
  go_loop [3, 4] (fun acc v => ∃ k : Nat, k ≤ 13 ∧ v = .int .i64 k ∧ acc = .int .i64 ((chF turF n k : Nat) : Int)) (fun _ v => 13 - (intOf v).toNat)
  case atStart => exact ⟨0, by omega, rfl, rfl⟩
  case round =>
    obtain ⟨k, hk, rfl, rfl⟩ := hrel
    clear HS
    by_cases h13 : k < 13
    · have hdi : decide ((k : Int) < 13) = true := by simp; omega
      cases hq : n.testBit k
      · have HF := hid (chF_miss (f := turF) hq)
        have HQ := hid hq
        clear hq
        go_wp2_with (first | (go_at_call 113; (with_reducible refine (l3Has_any n k hn h13 _).mono ?_); rintro e w' ⟨rfl, rfl⟩; rw [HQ.out]))
        go_round
        case rel => exact ⟨k + 1, by omega, by go_num, by rw [HF.out]⟩
        case measure => simp [intOf]; omega
      · have HF := hid ((i64_or _ _ (chF_lt (fun _ => turF_lt) hk) (pow_lt (turF_lt h13))).trans (congrArg _ (chF_hit (f := turF) hq).symm))
        have HQ := hid hq
        have HP := hid (sh_wrap (turF_lt h13))
        clear hq
        go_wp2_with (first | (go_at_call 113; (with_reducible refine (l3Has_any n k hn h13 _).mono ?_); rintro e w' ⟨rfl, rfl⟩; rw [HQ.out]))
        go_round
        case rel => exact ⟨k + 1, by omega, by go_num, ret_val (by rw [show 12 - k = turF k from rfl, HP.out]; exact HF.out)⟩
        case measure => simp [intOf]; omega
    · obtain rfl : k = 13 := by omega
      have hdi : decide (((13 : Nat) : Int) < 13) = false := by simp
      go_wp2
      go_ret
      exact ⟨rfl, rfl⟩
end Go.Proofs.YtlmmjdaipedjjaaDoor.C
