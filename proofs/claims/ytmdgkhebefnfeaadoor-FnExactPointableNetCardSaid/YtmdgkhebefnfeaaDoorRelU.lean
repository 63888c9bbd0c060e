/- Walks over chapter 3's relations: whether a number is one, its basic relations, turned and mirrored ones, all others. The exact laws of one relation: how many basic ones, all others, turned and mirrored. -/
import Derived.Test.YtmdgkhebefnfeaaDoorTurn
import Derived.Test.YtmdgkhebefnfeaaDoorRelM
namespace Go.Proofs.YtmdgkhebefnfeaaDoor.C
section
open Go.RowKit
set_option linter.unusedVariables false
set_option linter.unusedSimpArgs false
theorem iRelValid_any (r : Int) (w : World) :
    Calls Tryd.prog 123 #[.int .i64 r] w fun e w' => e = .returned (.bool (rv r)) ∧ w = w' := by
  by_cases h : 0 ≤ r
  all_goals
    have HS := AllLt.start w; go_enter Tryd.func123, Tryd.ntmps123
    go_wp2
    go_ret
    exact ⟨ret_bool (by rw [Bool.eq_iff_iff]; simp [rv, btw] <;> omega), rfl⟩
theorem sRelValid_any (r : Int) (w : World) :
    Calls Tryd.prog 115 #[.int .i64 r] w fun e w' => e = .returned (.bool (rv r)) ∧ w = w' := by
  have HS := AllLt.start w; go_enter Tryd.func115, Tryd.ntmps115
  go_wp2_with (first | (go_at_call 49; (with_reducible refine (l1In_any _ _ _ _).mono ?_); rintro e w' ⟨rfl, rfl⟩))
  go_ret
  exact ⟨rfl, rfl⟩
theorem relationOf_any (k : Nat) (hk : k < 13) (w : World) :
    Calls Tryd.prog 131 #[.int .i64 k] w fun e w' => e = .returned (.int .i64 ((2 ^ k : Nat) : Int)) ∧ w = w' := by
  rcases nat13 hk with rfl | rfl | rfl | rfl | rfl | rfl | rfl | rfl | rfl | rfl | rfl | rfl | rfl
  all_goals
    clear hk
    have HS := AllLt.start w; go_enter Tryd.func131, Tryd.ntmps131
    go_wp2
    go_ret
    exact ⟨ret_int (by decide +kernel), rfl⟩
theorem rhas_any (n k : Nat) (hn : n < 8192) (hk : k < 13) (w : World) :
    Calls Tryd.prog 181 #[.int .i64 n, .int .i64 k] w fun e w' => e = .returned (.bool (n.testBit k)) ∧ w = w' := by
  have HB := hid (has_bit n k hn hk)
  have HP := hid (relationOf_any k hk)
  generalize ((2 ^ k : Nat) : Int) = x at *
  have HS := AllLt.start w; go_enter Tryd.func181, Tryd.ntmps181
  go_wp2_with (first | (go_at_call 131; (with_reducible refine (HP.out _).mono ?_); rintro e w' ⟨rfl, rfl⟩))
  go_ret
  exact ⟨ret_bool HB.out, rfl⟩
theorem l3Has_eq (n k : Nat) (h : n < 8192) : (bits .and .i64 (((n / 2 ^ k : Nat)) : Int) 1 == 1) = n.testBit k := by
  have h2 : n / 2 ^ k < 8192 := Nat.lt_of_le_of_lt (Nat.div_le_self _ _) h
  rw [show (1 : Int) = ((1 : Nat) : Int) from rfl, i64_and _ 1 h2 (by omega), Nat.and_one_is_mod, has_shr]
  cases n.testBit k <;> rfl
theorem l3Has_any (n k : Nat) (hn : n < 8192) (hk : k < 13) (w : World) :
    Calls Tryd.prog 126 #[.int .i64 n, .int .i64 k] w fun e w' => e = .returned (.bool (n.testBit k)) ∧ w = w' := by
  have HB := hid (l3Has_eq n k hn)
  rcases nat13 hk with rfl | rfl | rfl | rfl | rfl | rfl | rfl | rfl | rfl | rfl | rfl | rfl | rfl
  all_goals
    clear hk
    have HS := AllLt.start w; go_enter Tryd.func126, Tryd.ntmps126
    go_wp2
    go_ret
    exact ⟨ret_bool (by have h := HB.out; first | exact h | (rw [show n / 2 ^ 0 = n from by simp] at h; exact h)), rfl⟩
set_option maxHeartbeats 1000000 in
/-- The relation of all turned basic relations. -/
theorem changed_turned (n : Nat) (hn : n < 8192) (w : World) (hT : TB w) :
    Calls Tryd.prog 200 #[.int .i64 n, .func (.func 201) #[] #[]] w fun e w' => e = .returned (.int .i64 ((chN turF n : Nat) : Int)) ∧ Below w.heap.size w w' := by
  have HT := hid hT
  clear hT
  have HS := AllLt.start w; go_enter Tryd.func200, Tryd.ntmps200
  go_wp2
  go_loopw [5, 7] (fun acc v wr => ∃ k : Nat, k ≤ 13 ∧ v = .int .i64 k ∧ acc = .int .i64 ((chF turF n k : Nat) : Int) ∧ Hid (Below w.heap.size w wr)) (fun _ v _ => 13 - (intOf v).toNat)
  case atStart => exact ⟨0, by omega, rfl, rfl, hid (Below.refl _ _)⟩
  case round =>
    obtain ⟨k, hk, rfl, rfl, HB⟩ := hrel
    clear HS
    by_cases h13 : k < 13
    · have hdi : decide ((k : Int) < 13) = true := by simp; omega
      cases hq : n.testBit k
      · have HF := hid (chF_miss (f := turF) hq)
        have HQ := hid hq
        clear hq
        go_wp2_with (first | (go_at_call 181; (with_reducible refine (rhas_any n k hn h13 _).mono ?_); rintro e w' ⟨rfl, rfl⟩; rw [HQ.out]))
        go_roundw
        case rel => exact ⟨k + 1, by omega, by go_num, by rw [HF.out], HB⟩
        case measure => simp [intOf]; omega
      · have HF := hid ((i64_or _ _ (chF_lt (fun _ => turF_lt) hk) (pow_lt (turF_lt h13))).trans (congrArg _ (chF_hit (f := turF) hq).symm))
        have HQ := hid hq
        clear hq
        go_wp2_with (first | (go_at_call 181; (with_reducible refine (rhas_any n k hn h13 _).mono ?_); rintro e w' ⟨rfl, rfl⟩; rw [HQ.out]) | (go_at_call 201; (with_reducible refine (bturned_any k h13 _ (HT.out.below HB.out)).mono ?_); rintro e w' ⟨rfl, hb⟩) | (go_at_call 131; (with_reducible refine (relationOf_any (12 - k) (by omega) _).mono ?_); rintro e w' ⟨rfl, rfl⟩))
        go_roundw
        case rel => exact ⟨k + 1, by omega, by go_num, ret_val HF.out, hid (HB.out.trans (hb.mono HB.out.size))⟩
        case measure => simp [intOf]; omega
    · obtain rfl : k = 13 := by omega
      have hdi : decide (((13 : Nat) : Int) < 13) = false := by simp
      go_wp2
      go_ret
      exact ⟨rfl, HB.out⟩
end
section
open Go.RowKit
set_option linter.unusedVariables false
set_option linter.unusedSimpArgs false
/-- two functions of numbers below 8192 that agree -/
theorem by_all {f g : Nat → Int} (h : all8192 (fun n => decide (f n = g n)) = true) (n : Nat) (hn : n < 8192) : f n = g n := of_decide_eq_true (all8192_of h n hn)
set_option maxHeartbeats 1000000 in
theorem l3Turn_any (n : Nat) (hn : n < 8192) (w : World) :
    Calls Tryd.prog 117 #[.int .i64 n] w fun e w' => e = .returned (.int .i64 ((chN turF n : Nat) : Int)) ∧ w = w' := by
  have HS := AllLt.start w; go_enter Tryd.func117, Tryd.ntmps117
  go_wp2
  go_loop [3, 4] (fun acc v => ∃ k : Nat, k ≤ 13 ∧ v = .int .i64 k ∧ acc = .int .i64 ((chF turF n k : Nat) : Int)) (fun _ v => 13 - (intOf v).toNat)
  case atStart => exact ⟨0, by omega, rfl, rfl⟩
  case round =>
    obtain ⟨k, hk, rfl, rfl⟩ := hrel
    clear HS
    by_cases h13 : k < 13
    · have hdi : decide ((k : Int) < 13) = true := by simp; omega
      cases hq : n.testBit k
      · have HF := hid (chF_miss (f := turF) hq)
        have HQ := hid hq
        clear hq
        go_wp2_with (first | (go_at_call 126; (with_reducible refine (l3Has_any n k hn h13 _).mono ?_); rintro e w' ⟨rfl, rfl⟩; rw [HQ.out]))
        go_round
        case rel => exact ⟨k + 1, by omega, by go_num, by rw [HF.out]⟩
        case measure => simp [intOf]; omega
      · have HF := hid ((i64_or _ _ (chF_lt (fun _ => turF_lt) hk) (pow_lt (turF_lt h13))).trans (congrArg _ (chF_hit (f := turF) hq).symm))
        have HQ := hid hq
        have HP := hid (sh_wrap (turF_lt h13))
        clear hq
        go_wp2_with (first | (go_at_call 126; (with_reducible refine (l3Has_any n k hn h13 _).mono ?_); rintro e w' ⟨rfl, rfl⟩; rw [HQ.out]))
        go_round
        case rel => exact ⟨k + 1, by omega, by go_num, ret_val (by rw [show 12 - k = turF k from rfl, HP.out]; exact HF.out)⟩
        case measure => simp [intOf]; omega
    · obtain rfl : k = 13 := by omega
      have hdi : decide (((13 : Nat) : Int) < 13) = false := by simp
      go_wp2
      go_ret
      exact ⟨rfl, rfl⟩
end
end Go.Proofs.YtmdgkhebefnfeaaDoor.C
