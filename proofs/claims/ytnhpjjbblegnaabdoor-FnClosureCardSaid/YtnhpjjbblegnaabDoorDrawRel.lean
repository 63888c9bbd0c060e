/- The draws of chapter 3. -/
import Derived.Test.YtnhpjjbblegnaabDoorDraw
import Derived.Test.YtnhpjjbblegnaabDoorRelM
namespace Go.Proofs.YtnhpjjbblegnaabDoor.C
open Go.RowKit
set_option linter.unusedVariables false
set_option linter.unusedSimpArgs false
def Rl (v : Int) : Prop := 0 ≤ v ∧ v ≤ 8191
theorem Rl_nat {n : Nat} (h : n < 8192) : Rl (n : Int) := ⟨by omega, by omega⟩
theorem l3Some_any (B q m : Nat) (w : World) (h : Rd B w q m) (hm : m ≤ 1000000000) :
    Calls Tryd.prog 120 #[.pointer (some ⟨q, 0, none⟩)] w (Drew Rl B q (m + 3) w) := by
  have HS := AllLt.start w; go_enter Tryd.func120, Tryd.ntmps120
  go_wp2_with fail
  refine (pick_any B q m _ _ h (by omega) (by omega) (by omega)).mono ?_
  rintro e w1 ⟨k, hk, rfl, hR, hW⟩
  by_cases hk0 : k = 0
  · subst hk0
    go_wp2_with fail
    refine (pick_any B q (m + 1) _ _ hR (by omega) (by omega) (by omega)).mono ?_
    rintro e w2 ⟨j, hj, rfl, hR2, hW2⟩
    have HF : Hid (∀ v e w', Rl v → e = .returned (.int .i64 v) → w2 = w' → Drew Rl B q (m + 3) w e w') := hid fun v e w' c0 c1 c2 => Drew.of (hW.trans hW2) (hR2.mono (by omega)) c0 c1 c2
    have HJ : j < 13 := by omega
    clear hR hW hR2 hW2 h
    go_wp2
    go_ret
    exact HF.out _ _ _ (by rw [sh_wrap HJ]; exact Rl_nat (pow_lt HJ)) rfl rfl
  · by_cases hk1 : k = 1
    · subst hk1
      go_wp2_with fail
      refine (pick_any B q (m + 1) _ _ hR (by omega) (by omega) (by omega)).mono ?_
      rintro e w2 ⟨j, hj, rfl, hR2, hW2⟩
      go_wp2_with fail
      refine (pick_any B q (m + 2) _ _ hR2 (by omega) (by omega) (by omega)).mono ?_
      rintro e w3 ⟨i, hi, rfl, hR3, hW3⟩
      have HF : Hid (∀ v e w', Rl v → e = .returned (.int .i64 v) → w3 = w' → Drew Rl B q (m + 3) w e w') := hid fun v e w' c0 c1 c2 => Drew.of ((hW.trans hW2).trans hW3) (hR3.mono (by omega)) c0 c1 c2
      have HJ : j < 13 := by omega
      have HI : i < 13 := by omega
      clear hR hW hR2 hW2 hR3 hW3 h
      go_wp2
      go_ret
      exact HF.out _ _ _ (by rw [sh_wrap HJ, sh_wrap HI, i64_or _ _ (pow_lt HJ) (pow_lt HI)]; exact Rl_nat (or_lt (pow_lt HJ) (pow_lt HI))) rfl rfl
    · have b0 : ((k : Int) == 0) = false := by simp; omega
      have b1 : ((k : Int) == 1) = false := by simp; omega
      go_wp2_with fail
      refine (pick_any B q (m + 1) _ _ hR (by omega) (by omega) (by omega)).mono ?_
      rintro e w2 ⟨j, hj, rfl, hR2, hW2⟩
      go_wp2_with fail
      refine (pick_any B q (m + 2) _ _ hR2 (by omega) (by omega) (by omega)).mono ?_
      rintro e w3 ⟨i, hi, rfl, hR3, hW3⟩
      have HF : Hid (∀ v e w', Rl v → e = .returned (.int .i64 v) → w3 = w' → Drew Rl B q (m + 3) w e w') := hid fun v e w' c0 c1 c2 => Drew.of ((hW.trans hW2).trans hW3) (hR3.mono (by omega)) c0 c1 c2
      clear hR hW hR2 hW2 hR3 hW3 h
      go_wp2
      go_ret
      exact HF.out _ _ _ (by unfold Rl; omega) rfl rfl
theorem l3Open_any (B q m : Nat) (w : World) (h : Rd B w q m) (hm : m ≤ 100000000) :
    Calls Tryd.prog 115 #[.pointer (some ⟨q, 0, none⟩)] w (Drew I64 B q (m + 4) w) := by
  have HS := AllLt.start w; go_enter Tryd.func115, Tryd.ntmps115
  go_wp2_with fail
  refine (pick_any B q m _ _ h (by omega) (by omega) (by omega)).mono ?_
  rintro e w1 ⟨k, hk, rfl, hR, hW⟩
  by_cases hk0 : k = 0
  · subst hk0
    go_wp2_with fail
    refine (num_new B q (m + 1) _ I64 [-1, 8192, 8191, 0, 9223372036854775807] 5 _ _ hR (by simp) rfl (by omega) (by omega) (by omega) (by unfold I64; decide)).mono ?_
    rintro e w2 ⟨v, hv, rfl, hR2, hW2⟩
    have HF : Hid (∀ e w', e = .returned (.int .i64 v) → w2 = w' → Drew I64 B q (m + 4) w e w') := hid fun e w' c1 c2 => Drew.of (hW.trans hW2) (hR2.mono (by omega)) hv c1 c2
    clear hR hW hR2 hW2 h
    go_wp2
    go_ret
    exact HF.out _ _ rfl rfl
  · have b0 : ((k : Int) == 0) = false := by simp; omega
    go_wp2_with fail
    refine (l3Some_any B q (m + 1) _ hR (by omega)).mono ?_
    rintro e w2 ⟨v, ⟨hv0, hv1⟩, rfl, hR2, hW2⟩
    have hv2 : I64 v := by
      unfold I64
      omega
    have HF : Hid (∀ e w', e = .returned (.int .i64 v) → w2 = w' → Drew I64 B q (m + 4) w e w') := hid fun e w' c1 c2 => Drew.of (hW.trans hW2) (hR2.mono (by omega)) hv2 c1 c2
    clear hR hW hR2 hW2 h
    go_wp2
    go_ret
    exact HF.out _ _ rfl rfl
theorem DrawFormatRel_any (a : Option Addr) (len cap : Nat) (zs : List Int) (w : World) (h : IsRow .u8 w a len cap zs) :
    Calls Tryd.prog 59 #[.slice a len cap] w (Out1 I64 w) := by
  have HS := AllLt.start w; go_enter Tryd.func59, Tryd.ntmps59
  go_wp2_with fail
  refine (l14Open_any _ _ _ _ _ h).mono ?_
  rintro e w1 ⟨rfl, hR, hb⟩
  go_wp2_with fail
  refine (l3Open_any _ _ 0 _ hR (by omega)).mono ?_
  rintro e w2 ⟨v, hv, rfl, hR2, hW⟩
  have HF : Hid (∀ e w', e = .returned (.int .i64 v) → w2 = w' → Out1 I64 w e w') := hid fun e w' c1 c2 => Out1.of hv hb hW c1 c2
  clear hR hb hR2 hW h
  go_wp2
  go_ret
  exact HF.out _ _ rfl rfl
theorem DrawNamedRel_any (a : Option Addr) (len cap : Nat) (zs : List Int) (w : World) (h : IsRow .u8 w a len cap zs) :
    Calls Tryd.prog 55 #[.slice a len cap] w (OutS (fun _ => True) w) := by
  have HS := AllLt.start w; go_enter Tryd.func55, Tryd.ntmps55
  go_wp2_with fail
  refine (l14Open_any _ _ _ _ _ h).mono ?_
  rintro e w1 ⟨rfl, hR, hb⟩
  go_wp2_with fail
  refine (of_new _ _ 0 _ (fun _ => True) [⟨#[97, 108, 108]⟩, ⟨#[110, 111, 110, 101]⟩, ⟨#[97, 112, 97, 114, 116]⟩, ⟨#[99, 111, 109, 109, 111, 110]⟩, ⟨#[119, 105, 116, 104, 105, 110]⟩, ⟨#[98, 101, 103, 105, 110, 115]⟩, ⟨#[101, 110, 100, 115]⟩, ⟨#[101, 97, 114, 108, 105, 101, 114]⟩, ⟨#[]⟩, ⟨#[108, 97, 116, 101, 114]⟩] 10 _ _ hR (by simp) rfl (by omega) (by omega) (by omega) (fun _ _ => trivial)).mono ?_
  rintro e w2 ⟨v, hv, rfl, hR2, hW⟩
  have HF : Hid (∀ e w', e = .returned (.string v) → w2 = w' → OutS (fun _ => True) w e w') := hid fun e w' c1 c2 => OutS.of trivial hb hW c1 c2
  clear hR hb hR2 hW h
  go_wp2
  go_ret
  exact HF.out _ _ rfl rfl
end Go.Proofs.YtnhpjjbblegnaabDoor.C
