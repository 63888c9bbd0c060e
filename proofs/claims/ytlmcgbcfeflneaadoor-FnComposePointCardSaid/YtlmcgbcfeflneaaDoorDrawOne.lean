/- The draws of chapter 1. -/
import Derived.Test.YtlmcgbcfeflneaaDoorDraw
namespace Go.Proofs.YtlmcgbcfeflneaaDoor.C
open Go.RowKit
set_option linter.unusedVariables false
theorem l1Set_any (B q m : Nat) (w : World) (h : Rd B w q m) (hm : m ≤ 1000000000) :
    Calls Tryd.prog 39 #[.pointer (some ⟨q, 0, none⟩)] w (Drew I64 B q (m + 2) w) := by
  go_enter Tryd.func39, Tryd.ntmps39
  go_wp2_with fail
  refine (pick_any B q m _ _ h (by omega) (by omega) (by omega)).mono ?_
  rintro e w1 ⟨k, hk, rfl, hR, hW⟩
  by_cases hk0 : k = 0
  · subst hk0
    go_wp2_with fail
    refine (num_new B q (m + 1) _ I64 [-1, 8, 9223372036854775807] 3 _ _ hR (by simp) rfl (by omega) (by omega) (by omega) (by unfold I64; decide)).mono ?_
    rintro e w2 ⟨v, hv, rfl, hR2, hW2⟩
    have HF : Hid (∀ e w', e = .returned (.int .i64 v) → w2 = w' → Drew I64 B q (m + 2) w e w') := hid fun e w' c1 c2 => Drew.of (hW.trans hW2) hR2 hv c1 c2
    clear hR hW hR2 hW2
    go_wp2
    go_ret
    exact HF.out _ _ rfl rfl
  · have hk1 : ((k : Int) == 0) = false := by simp; omega
    go_wp2_with fail
    refine (pick_any B q (m + 1) _ _ hR (by omega) (by omega) (by omega)).mono ?_
    rintro e w2 ⟨j, hj, rfl, hR2, hW2⟩
    have HF : Hid (∀ e w', e = .returned (.int .i64 j) → w2 = w' → Drew I64 B q (m + 2) w e w') := hid fun e w' c1 c2 => Drew.of (hW.trans hW2) hR2 (by unfold I64; omega) c1 c2
    clear hR hW hR2 hW2
    go_wp2
    go_ret
    exact HF.out _ _ rfl rfl
theorem l1Spot_any (B q m : Nat) (w : World) (h : Rd B w q m) (hm : m ≤ 1000000000) :
    Calls Tryd.prog 31 #[.pointer (some ⟨q, 0, none⟩)] w (Drew I64 B q (m + 2) w) := by
  go_enter Tryd.func31, Tryd.ntmps31
  go_wp2_with fail
  refine (pick_any B q m _ _ h (by omega) (by omega) (by omega)).mono ?_
  rintro e w1 ⟨k, hk, rfl, hR, hW⟩
  by_cases hk0 : k = 0
  · subst hk0
    go_wp2_with fail
    refine (num_new B q (m + 1) _ I64 [-1000000, 1000000, 1000001, -1000001, 9223372036854775807] 5 _ _ hR (by simp) rfl (by omega) (by omega) (by omega) (by unfold I64; decide)).mono ?_
    rintro e w2 ⟨v, hv, rfl, hR2, hW2⟩
    have HF : Hid (∀ e w', e = .returned (.int .i64 v) → w2 = w' → Drew I64 B q (m + 2) w e w') := hid fun e w' c1 c2 => Drew.of (hW.trans hW2) hR2 hv c1 c2
    clear hR hW hR2 hW2
    go_wp2
    go_ret
    exact HF.out _ _ rfl rfl
  · have hk1 : ((k : Int) == 0) = false := by simp; omega
    go_wp2_with fail
    refine (pick_any B q (m + 1) _ _ hR (by omega) (by omega) (by omega)).mono ?_
    rintro e w2 ⟨j, hj, rfl, hR2, hW2⟩
    have HF : Hid (∀ e w', e = .returned (.int .i64 j) → w2 = w' → Drew I64 B q (m + 2) w e w') := hid fun e w' c1 c2 => Drew.of (hW.trans hW2) hR2 (by unfold I64; omega) c1 c2
    clear hR hW hR2 hW2
    go_wp2
    go_ret
    exact HF.out _ _ rfl rfl
theorem DrawFormatPoint_any (a : Option Addr) (len cap : Nat) (zs : List Int) (w : World) (h : IsRow .u8 w a len cap zs) :
    Calls Tryd.prog 17 #[.slice a len cap] w (Out1 I64 w) := by
  go_enter Tryd.func17, Tryd.ntmps17
  go_wp2_with fail
  refine (l14Open_any _ _ _ _ _ h).mono ?_
  rintro e w1 ⟨rfl, hR, hb⟩
  go_wp2_with fail
  refine (l1Set_any _ _ 0 _ hR (by omega)).mono ?_
  rintro e w2 ⟨v, hv, rfl, hR2, hW⟩
  have HF : Hid (∀ e w', e = .returned (.int .i64 v) → w2 = w' → Out1 I64 w e w') := hid fun e w' c1 c2 => Out1.of hv hb hW c1 c2
  clear hR hb hR2 hW h
  go_wp2
  go_ret
  exact HF.out _ _ rfl rfl
theorem DrawTurnPoint_any (a : Option Addr) (len cap : Nat) (zs : List Int) (w : World) (h : IsRow .u8 w a len cap zs) :
    Calls Tryd.prog 28 #[.slice a len cap] w (Out1 I64 w) := by
  go_enter Tryd.func28, Tryd.ntmps28
  go_wp2_with fail
  refine (l14Open_any _ _ _ _ _ h).mono ?_
  rintro e w1 ⟨rfl, hR, hb⟩
  go_wp2_with fail
  refine (l1Set_any _ _ 0 _ hR (by omega)).mono ?_
  rintro e w2 ⟨v, hv, rfl, hR2, hW⟩
  have HF : Hid (∀ e w', e = .returned (.int .i64 v) → w2 = w' → Out1 I64 w e w') := hid fun e w' c1 c2 => Out1.of hv hb hW c1 c2
  clear hR hb hR2 hW h
  go_wp2
  go_ret
  exact HF.out _ _ rfl rfl
theorem DrawOrderOf_any (a : Option Addr) (len cap : Nat) (zs : List Int) (w : World) (h : IsRow .u8 w a len cap zs) :
    Calls Tryd.prog 11 #[.slice a len cap] w (Out2 (fun v u => I64 v ∧ I64 u) w) := by
  go_enter Tryd.func11, Tryd.ntmps11
  go_wp2_with fail
  refine (l14Open_any _ _ _ _ _ h).mono ?_
  rintro e w1 ⟨rfl, hR, hb⟩
  go_wp2_with fail
  refine (l1Spot_any _ _ 0 _ hR (by omega)).mono ?_
  rintro e w2 ⟨v, hv, rfl, hR2, hW⟩
  go_wp2_with fail
  refine (l1Spot_any _ _ (0 + 2) _ hR2 (by omega)).mono ?_
  rintro e w3 ⟨u, hu, rfl, hR3, hW3⟩
  have HF : Hid (∀ e w', e = .returned (.tuple #[.int .i64 v, .int .i64 u]) → w3 = w' → Out2 (fun v u => I64 v ∧ I64 u) w e w') := hid fun e w' c1 c2 => Out2.of ⟨hv, hu⟩ hb (hW.trans hW3) c1 c2
  clear hR hb hR2 hW h hR3 hW3
  go_wp2
  go_ret2
  exact HF.out _ _ rfl rfl
theorem DrawComposePoint_any (a : Option Addr) (len cap : Nat) (zs : List Int) (w : World) (h : IsRow .u8 w a len cap zs) :
    Calls Tryd.prog 25 #[.slice a len cap] w (Out2 (fun v u => I64 v ∧ I64 u) w) := by
  go_enter Tryd.func25, Tryd.ntmps25
  go_wp2_with fail
  refine (l14Open_any _ _ _ _ _ h).mono ?_
  rintro e w1 ⟨rfl, hR, hb⟩
  go_wp2_with fail
  refine (l1Set_any _ _ 0 _ hR (by omega)).mono ?_
  rintro e w2 ⟨v, hv, rfl, hR2, hW⟩
  go_wp2_with fail
  refine (l1Set_any _ _ (0 + 2) _ hR2 (by omega)).mono ?_
  rintro e w3 ⟨u, hu, rfl, hR3, hW3⟩
  have HF : Hid (∀ e w', e = .returned (.tuple #[.int .i64 v, .int .i64 u]) → w3 = w' → Out2 (fun v u => I64 v ∧ I64 u) w e w') := hid fun e w' c1 c2 => Out2.of ⟨hv, hu⟩ hb (hW.trans hW3) c1 c2
  clear hR hb hR2 hW h hR3 hW3
  go_wp2
  go_ret2
  exact HF.out _ _ rfl rfl
end Go.Proofs.YtlmcgbcfeflneaaDoor.C
