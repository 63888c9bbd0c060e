/- Walks over chapter 3's relations: whether a number is one, its basic relations, turned and mirrored ones, all others. -/
import Derived.Test.YtnhpjjbblegnaaaDoorTurn
import Derived.Test.YtnhpjjbblegnaaaDoorRelP
namespace Go.Proofs.YtnhpjjbblegnaaaDoor.C
open Go.RowKit
set_option linter.unusedVariables false
set_option linter.unusedSimpArgs false
theorem iRelValid_any (r : Int) (w : World) :
    Calls Tryd.prog 39 #[.int .i64 r] w fun e w' => e = .returned (.bool (rv r)) ∧ w = w' := by
  by_cases h : 0 ≤ r
  all_goals
    have HS := AllLt.start w; go_enter Tryd.func39, Tryd.ntmps39
    go_wp2
    go_ret
    exact ⟨ret_bool (by rw [Bool.eq_iff_iff]; simp [rv, btw] <;> omega), rfl⟩
theorem sRelValid_any (r : Int) (w : World) :
    Calls Tryd.prog 37 #[.int .i64 r] w fun e w' => e = .returned (.bool (rv r)) ∧ w = w' := by
  have HS := AllLt.start w; go_enter Tryd.func37, Tryd.ntmps37
  go_wp2_with (first | (go_at_call 60; (with_reducible refine (l1In_any _ _ _ _).mono ?_); rintro e w' ⟨rfl, rfl⟩))
  go_ret
  exact ⟨rfl, rfl⟩
theorem relationOf_any (k : Nat) (hk : k < 13) (w : World) :
    Calls Tryd.prog 84 #[.int .i64 k] w fun e w' => e = .returned (.int .i64 ((2 ^ k : Nat) : Int)) ∧ w = w' := by
  rcases nat13 hk with rfl | rfl | rfl | rfl | rfl | rfl | rfl | rfl | rfl | rfl | rfl | rfl | rfl
  all_goals
    clear hk
    have HS := AllLt.start w; go_enter Tryd.func84, Tryd.ntmps84
    go_wp2
    go_ret
    exact ⟨ret_int (by decide +kernel), rfl⟩
theorem rhas_any (n k : Nat) (hn : n < 8192) (hk : k < 13) (w : World) :
    Calls Tryd.prog 87 #[.int .i64 n, .int .i64 k] w fun e w' => e = .returned (.bool (n.testBit k)) ∧ w = w' := by
  have HB := hid (has_bit n k hn hk)
  have HP := hid (relationOf_any k hk)
  generalize ((2 ^ k : Nat) : Int) = x at *
  have HS := AllLt.start w; go_enter Tryd.func87, Tryd.ntmps87
  go_wp2_with (first | (go_at_call 84; (with_reducible refine (HP.out _).mono ?_); rintro e w' ⟨rfl, rfl⟩))
  go_ret
  exact ⟨ret_bool HB.out, rfl⟩
theorem l3Has_eq (n k : Nat) (h : n < 8192) : (bits .and .i64 (((n / 2 ^ k : Nat)) : Int) 1 == 1) = n.testBit k := by
  have h2 : n / 2 ^ k < 8192 := Nat.lt_of_le_of_lt (Nat.div_le_self _ _) h
  rw [show (1 : Int) = ((1 : Nat) : Int) from rfl, i64_and _ 1 h2 (by omega), Nat.and_one_is_mod, has_shr]
  cases n.testBit k <;> rfl
theorem l3Has_any (n k : Nat) (hn : n < 8192) (hk : k < 13) (w : World) :
    Calls Tryd.prog 51 #[.int .i64 n, .int .i64 k] w fun e w' => e = .returned (.bool (n.testBit k)) ∧ w = w' := by
  have HB := hid (l3Has_eq n k hn)
  rcases nat13 hk with rfl | rfl | rfl | rfl | rfl | rfl | rfl | rfl | rfl | rfl | rfl | rfl | rfl
  all_goals
    clear hk
    have HS := AllLt.start w; go_enter Tryd.func51, Tryd.ntmps51
    go_wp2
    go_ret
    exact ⟨ret_bool (by have h := HB.out; first | exact h | (rw [show n / 2 ^ 0 = n from by simp] at h; exact h)), rfl⟩
end Go.Proofs.YtnhpjjbblegnaaaDoor.C
