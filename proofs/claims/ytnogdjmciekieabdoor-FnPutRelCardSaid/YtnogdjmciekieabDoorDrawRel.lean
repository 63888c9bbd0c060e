/- The draws of chapter 3. -/
import Derived.Test.YtnogdjmciekieabDoorInts
import Derived.Test.YtnogdjmciekieabDoorRelM
namespace Go.Proofs.YtnogdjmciekieabDoor.C
open Go.RowKit
set_option linter.unusedVariables false
set_option linter.unusedSimpArgs false
def Rl (v : Int) : Prop := 0 ≤ v ∧ v ≤ 8191
theorem Rl_nat {n : Nat} (h : n < 8192) : Rl (n : Int) := ⟨by omega, by omega⟩
theorem l3Some_any (B q m : Nat) (w : World) (h : Rd B w q m) (hm : m ≤ 1000000000) :
    Calls Tryd.prog 91 #[.pointer (some ⟨q, 0, none⟩)] w (Drew Rl B q (m + 3) w) := by
  have HS := AllLt.start w; go_enter Tryd.func91, Tryd.ntmps91
  go_wp2_with fail
  refine (pick_any B q m _ _ h (by omega) (by omega) (by omega)).mono ?_
  rintro e w1 ⟨k, hk, rfl, hR, hW⟩
  by_cases hk0 : k = 0
  · subst hk0
    go_wp2_with fail
    refine (pick_any B q (m + 1) _ _ hR (by omega) (by omega) (by omega)).mono ?_
    rintro e w2 ⟨j, hj, rfl, hR2, hW2⟩
    have HF : Hid (∀ v e w', Rl v → e = .returned (.int .i64 v) → w2 = w' → Drew Rl B q (m + 3) w e w') := hid fun v e w' c0 c1 c2 => Drew.of (hW.trans hW2) (hR2.mono (by omega)) c0 c1 c2
    have HJ : j < 13 := by omega
    clear hR hW hR2 hW2 h
    go_wp2
    go_ret
    exact HF.out _ _ _ (by rw [sh_wrap HJ]; exact Rl_nat (pow_lt HJ)) rfl rfl
  · by_cases hk1 : k = 1
    · subst hk1
      go_wp2_with fail
      refine (pick_any B q (m + 1) _ _ hR (by omega) (by omega) (by omega)).mono ?_
      rintro e w2 ⟨j, hj, rfl, hR2, hW2⟩
      go_wp2_with fail
      refine (pick_any B q (m + 2) _ _ hR2 (by omega) (by omega) (by omega)).mono ?_
      rintro e w3 ⟨i, hi, rfl, hR3, hW3⟩
      have HF : Hid (∀ v e w', Rl v → e = .returned (.int .i64 v) → w3 = w' → Drew Rl B q (m + 3) w e w') := hid fun v e w' c0 c1 c2 => Drew.of ((hW.trans hW2).trans hW3) (hR3.mono (by omega)) c0 c1 c2
      have HJ : j < 13 := by omega
      have HI : i < 13 := by omega
      clear hR hW hR2 hW2 hR3 hW3 h
      go_wp2
      go_ret
      exact HF.out _ _ _ (by rw [sh_wrap HJ, sh_wrap HI, i64_or _ _ (pow_lt HJ) (pow_lt HI)]; exact Rl_nat (or_lt (pow_lt HJ) (pow_lt HI))) rfl rfl
    · have b0 : ((k : Int) == 0) = false := by simp; omega
      have b1 : ((k : Int) == 1) = false := by simp; omega
      go_wp2_with fail
      refine (pick_any B q (m + 1) _ _ hR (by omega) (by omega) (by omega)).mono ?_
      rintro e w2 ⟨j, hj, rfl, hR2, hW2⟩
      go_wp2_with fail
      refine (pick_any B q (m + 2) _ _ hR2 (by omega) (by omega) (by omega)).mono ?_
      rintro e w3 ⟨i, hi, rfl, hR3, hW3⟩
      have HF : Hid (∀ v e w', Rl v → e = .returned (.int .i64 v) → w3 = w' → Drew Rl B q (m + 3) w e w') := hid fun v e w' c0 c1 c2 => Drew.of ((hW.trans hW2).trans hW3) (hR3.mono (by omega)) c0 c1 c2
      clear hR hW hR2 hW2 hR3 hW3 h
      go_wp2
      go_ret
      exact HF.out _ _ _ (by unfold Rl; omega) rfl rfl
theorem l3Open_any (B q m : Nat) (w : World) (h : Rd B w q m) (hm : m ≤ 100000000) :
    Calls Tryd.prog 49 #[.pointer (some ⟨q, 0, none⟩)] w (Drew I64 B q (m + 4) w) := by
  have HS := AllLt.start w; go_enter Tryd.func49, Tryd.ntmps49
  go_wp2_with fail
  refine (pick_any B q m _ _ h (by omega) (by omega) (by omega)).mono ?_
  rintro e w1 ⟨k, hk, rfl, hR, hW⟩
  by_cases hk0 : k = 0
  · subst hk0
    go_wp2_with fail
    refine (num_new B q (m + 1) _ I64 [-1, 8192, 8191, 0, 9223372036854775807] 5 _ _ hR (by simp) rfl (by omega) (by omega) (by omega) (by unfold I64; decide)).mono ?_
    rintro e w2 ⟨v, hv, rfl, hR2, hW2⟩
    have HF : Hid (∀ e w', e = .returned (.int .i64 v) → w2 = w' → Drew I64 B q (m + 4) w e w') := hid fun e w' c1 c2 => Drew.of (hW.trans hW2) (hR2.mono (by omega)) hv c1 c2
    clear hR hW hR2 hW2 h
    go_wp2
    go_ret
    exact HF.out _ _ rfl rfl
  · have b0 : ((k : Int) == 0) = false := by simp; omega
    go_wp2_with fail
    refine (l3Some_any B q (m + 1) _ hR (by omega)).mono ?_
    rintro e w2 ⟨v, ⟨hv0, hv1⟩, rfl, hR2, hW2⟩
    have hv2 : I64 v := by
      unfold I64
      omega
    have HF : Hid (∀ e w', e = .returned (.int .i64 v) → w2 = w' → Drew I64 B q (m + 4) w e w') := hid fun e w' c1 c2 => Drew.of (hW.trans hW2) (hR2.mono (by omega)) hv2 c1 c2
    clear hR hW hR2 hW2 h
    go_wp2
    go_ret
    exact HF.out _ _ rfl rfl
end Go.Proofs.YtnogdjmciekieabDoor.C
