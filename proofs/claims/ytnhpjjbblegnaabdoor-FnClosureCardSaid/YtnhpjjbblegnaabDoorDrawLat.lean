/- The draws of chapter 4. -/
import Derived.Test.YtnhpjjbblegnaabDoorDrawRel
import Derived.Test.YtnhpjjbblegnaabDoorHulS
import Derived.Test.YtnhpjjbblegnaabDoorEosS
namespace Go.Proofs.YtnhpjjbblegnaabDoor.C
open Go.RowKit
set_option linter.unusedVariables false
set_option linter.unusedSimpArgs false
theorem bits_I64 (o : BinOp) (a b : Int) : I64 (bits o .i64 a b) := by
  have h := wf_bits o .i64 a b
  unfold I64
  simp [Lit.wf] at h
  exact ⟨h.1, h.2⟩
theorem I64_nat {n : Nat} (h : n < 8192) : I64 (n : Int) := by unfold I64; omega
set_option maxHeartbeats 1000000 in
theorem l4Some_any (B q m : Nat) (w : World) (h : Rd B w q m) (hm : m ≤ 10000000) :
    Calls Tryd.prog 71 #[.pointer (some ⟨q, 0, none⟩)] w (Drew I64 B q (m + 6) w) := by
  have HS := AllLt.start w; go_enter Tryd.func71, Tryd.ntmps71
  go_wp2_with fail
  refine (l3Open_any B q m _ h (by omega)).mono ?_
  rintro e w1 ⟨v, hv, rfl, hR, hW⟩
  have HV := hid hv
  clear hv
  rcases rv_cases v with hr | ⟨n, hn, rfl⟩
  · have H := hid hr
    have HF : Hid (∀ e w', e = .returned (.int .i64 v) → w1 = w' → Drew I64 B q (m + 6) w e w') := hid fun e w' c1 c2 => Drew.of hW (hR.mono (by omega)) HV.out c1 c2
    clear hr hR hW h
    go_wp2_with (first | (go_at_call 62; (with_reducible refine (sRelValid_any v _).mono ?_); rintro e w' ⟨rfl, rfl⟩; rw [H.out]))
    go_ret
    exact HF.out _ _ rfl rfl
  · have H := hid (rv_nat n hn)
    by_cases h0 : 0 < n
    · have hd : decide (0 < (n : Int)) = true := by simp; omega
      go_wp2_with (first | (go_at_call 62; (with_reducible refine (sRelValid_any (n : Int) _).mono ?_); rintro e w' ⟨rfl, rfl⟩; rw [H.out]) | (go_at_call 121; refine (pick_any B q (m + 4) _ _ hR (by omega) (by omega) (by omega)).mono ?_; rintro e w2 ⟨k, hk, rfl, hR2, hW2⟩))
      all_goals
        have fin : ∀ (x : Int) (w3 : World), I64 x → Below w2.heap.size w2 w3 → Hid (∀ e w', e = .returned (.int .i64 x) → w3 = w' → Drew I64 B q (m + 6) w e w') := fun x w3 hx hb => hid fun e w' c1 c2 => Drew.of ((hW.trans hW2).trans (Wr.of_below hb)) ((hR2.below hb hR2.lt).mono (by omega)) hx c1 c2
      · (with_reducible refine (l4Hull_any n hn _).mono ?_)
        rintro e w3 ⟨rfl, hb⟩
        have HF := fin _ w3 (I64_nat (hull_lt n)) hb
        clear hR hW hR2 hW2 h fin hb
        go_wp2
        go_ret
        exact HF.out _ _ rfl rfl
      · obtain ⟨p0, p1, p2, p3⟩ := es_pv n
        (with_reducible refine (l4Orders_any n hn _).mono ?_)
        rintro e w3 ⟨rfl, hf3, hb3⟩
        go_wp2_with fail
        (with_reducible refine (l4Rel_any _ 4 (Nat.le_refl _) (es0 n) (es1 n) (es2 n) (es3 n) p0 p1 p2 p3 _ ⟨hf3.c 0 (by omega), hf3.c 1 (by omega), hf3.c 2 (by omega), hf3.c 3 (by omega), hf3.lt⟩).mono ?_)
        rintro e w4 ⟨rfl, hb4⟩
        have HF := fin _ w4 (I64_nat (rooN_lt (es0 n) (es1 n) (es2 n) (es3 n))) (hb3.trans (hb4.mono hb3.size))
        clear hR hW hR2 hW2 h fin hb3 hb4 hf3
        go_wp2
        go_ret
        exact HF.out _ _ rfl rfl
      · (with_reducible refine (l4Hull_any n hn _).mono ?_)
        rintro e w3 ⟨rfl, hb⟩
        go_wp2_with fail
        refine (pick_any B q (m + 5) _ _ (hR2.below hb hR2.lt) (by omega) (by omega) (by omega)).mono ?_
        rintro e w4 ⟨j, hj, rfl, hR4, hW4⟩
        have HF : Hid (∀ x e w', I64 x → e = .returned (.int .i64 x) → w4 = w' → Drew I64 B q (m + 6) w e w') := hid fun x e w' hx c1 c2 => Drew.of (((hW.trans hW2).trans (Wr.of_below hb)).trans hW4) (hR4.mono (by omega)) hx c1 c2
        clear hR hW hR2 hW2 h fin hb hR4 hW4
        go_wp2
        go_ret
        exact HF.out _ _ _ (bits_I64 _ _ _) rfl rfl
      · have HF := fin _ w2 (I64_nat hn) (Below.refl _ _)
        clear hR hW hR2 hW2 h fin
        go_ret
        exact HF.out _ _ rfl rfl
    · have hd : decide (0 < (n : Int)) = false := by simp; omega
      have HF : Hid (∀ e w', e = .returned (.int .i64 n) → w1 = w' → Drew I64 B q (m + 6) w e w') := hid fun e w' c1 c2 => Drew.of hW (hR.mono (by omega)) HV.out c1 c2
      clear hR hW h
      go_wp2_with (first | (go_at_call 62; (with_reducible refine (sRelValid_any (n : Int) _).mono ?_); rintro e w' ⟨rfl, rfl⟩; rw [H.out]))
      go_ret
      exact HF.out _ _ rfl rfl
theorem DrawConvexHull_any (a : Option Addr) (len cap : Nat) (zs : List Int) (w : World) (h : IsRow .u8 w a len cap zs) :
    Calls Tryd.prog 13 #[.slice a len cap] w (Out1 I64 w) := by
  have HS := AllLt.start w; go_enter Tryd.func13, Tryd.ntmps13
  go_wp2_with fail
  refine (l14Open_any _ _ _ _ _ h).mono ?_
  rintro e w1 ⟨rfl, hR, hb⟩
  go_wp2_with fail
  refine (l4Some_any _ _ 0 _ hR (by omega)).mono ?_
  rintro e w2 ⟨v, hv, rfl, hR2, hW⟩
  have HF : Hid (∀ e w', e = .returned (.int .i64 v) → w2 = w' → Out1 I64 w e w') := hid fun e w' c1 c2 => Out1.of hv hb hW c1 c2
  clear hR hb hR2 hW h
  go_wp2
  go_ret
  exact HF.out _ _ rfl rfl
theorem DrawIsPreconvex_any (a : Option Addr) (len cap : Nat) (zs : List Int) (w : World) (h : IsRow .u8 w a len cap zs) :
    Calls Tryd.prog 21 #[.slice a len cap] w (Out1 I64 w) := by
  have HS := AllLt.start w; go_enter Tryd.func21, Tryd.ntmps21
  go_wp2_with fail
  refine (l14Open_any _ _ _ _ _ h).mono ?_
  rintro e w1 ⟨rfl, hR, hb⟩
  go_wp2_with fail
  refine (l4Some_any _ _ 0 _ hR (by omega)).mono ?_
  rintro e w2 ⟨v, hv, rfl, hR2, hW⟩
  have HF : Hid (∀ e w', e = .returned (.int .i64 v) → w2 = w' → Out1 I64 w e w') := hid fun e w' c1 c2 => Out1.of hv hb hW c1 c2
  clear hR hb hR2 hW h
  go_wp2
  go_ret
  exact HF.out _ _ rfl rfl
theorem DrawClosureOf_any (a : Option Addr) (len cap : Nat) (zs : List Int) (w : World) (h : IsRow .u8 w a len cap zs) :
    Calls Tryd.prog 28 #[.slice a len cap] w (Out1 I64 w) := by
  have HS := AllLt.start w; go_enter Tryd.func28, Tryd.ntmps28
  go_wp2_with fail
  refine (l14Open_any _ _ _ _ _ h).mono ?_
  rintro e w1 ⟨rfl, hR, hb⟩
  go_wp2_with fail
  refine (l4Some_any _ _ 0 _ hR (by omega)).mono ?_
  rintro e w2 ⟨v, hv, rfl, hR2, hW⟩
  have HF : Hid (∀ e w', e = .returned (.int .i64 v) → w2 = w' → Out1 I64 w e w') := hid fun e w' c1 c2 => Out1.of hv hb hW c1 c2
  clear hR hb hR2 hW h
  go_wp2
  go_ret
  exact HF.out _ _ rfl rfl
theorem DrawEndOrders_any (a : Option Addr) (len cap : Nat) (zs : List Int) (w : World) (h : IsRow .u8 w a len cap zs) :
    Calls Tryd.prog 44 #[.slice a len cap] w (Out1 I64 w) := by
  have HS := AllLt.start w; go_enter Tryd.func44, Tryd.ntmps44
  go_wp2_with fail
  refine (l14Open_any _ _ _ _ _ h).mono ?_
  rintro e w1 ⟨rfl, hR, hb⟩
  go_wp2_with fail
  refine (l4Some_any _ _ 0 _ hR (by omega)).mono ?_
  rintro e w2 ⟨v, hv, rfl, hR2, hW⟩
  have HF : Hid (∀ e w', e = .returned (.int .i64 v) → w2 = w' → Out1 I64 w e w') := hid fun e w' c1 c2 => Out1.of hv hb hW c1 c2
  clear hR hb hR2 hW h
  go_wp2
  go_ret
  exact HF.out _ _ rfl rfl
end Go.Proofs.YtnhpjjbblegnaabDoor.C
