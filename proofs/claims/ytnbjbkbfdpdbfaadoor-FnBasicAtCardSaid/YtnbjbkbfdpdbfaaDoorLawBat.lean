/- The law of two zones. -/
import Derived.Test.YtnbjbkbfdpdbfaaDoorDraw
import Derived.Test.YtnbjbkbfdpdbfaaDoorTab
import Derived.Test.YtnbjbkbfdpdbfaaDoorTabS
namespace Go.Proofs.YtnbjbkbfdpdbfaaDoor.C
open Go.RowKit
set_option linter.unusedVariables false
set_option linter.unusedSimpArgs false
theorem DrawBasicAt_any (a : Option Addr) (len cap : Nat) (zs : List Int) (w : World) (h : IsRow .u8 w a len cap zs) :
    Calls Tryd.prog 36 #[.slice a len cap] w (Out2 (fun v u => (v = -1 ∨ v = 0 ∨ v = 1 ∨ v = 2 ∨ v = 3 ∨ v = 4) ∧ (u = -1 ∨ u = 0 ∨ u = 1 ∨ u = 2 ∨ u = 3 ∨ u = 4 ∨ u = 5)) w) := by
  have HS := AllLt.start w; go_enter Tryd.func36, Tryd.ntmps36
  go_wp2_with fail
  refine (l14Open_any _ _ _ _ _ h).mono ?_
  rintro e w1 ⟨rfl, hR, hb⟩
  go_wp2_with fail
  refine (pick_any _ _ 0 _ _ hR (by omega) (by omega) (by omega)).mono ?_
  rintro e w2 ⟨k, hk, rfl, hR2, hW⟩
  go_wp2_with fail
  refine (pick_any _ _ (0 + 1) _ _ hR2 (by omega) (by omega) (by omega)).mono ?_
  rintro e w3 ⟨j, hj, rfl, hR3, hW3⟩
  have HF : Hid (∀ e w', e = .returned (.tuple #[.int .i64 ((k : Int) - 1), .int .i64 ((j : Int) - 1)]) → w3 = w' → Out2 (fun v u => (v = -1 ∨ v = 0 ∨ v = 1 ∨ v = 2 ∨ v = 3 ∨ v = 4) ∧ (u = -1 ∨ u = 0 ∨ u = 1 ∨ u = 2 ∨ u = 3 ∨ u = 4 ∨ u = 5)) w e w') := hid fun e w' c1 c2 => Out2.of ⟨by omega, by omega⟩ hb (hW.trans hW3) c1 c2
  clear hR hb hR2 hW h hR3 hW3
  go_wp2
  go_ret2
  exact HF.out _ _ rfl rfl
theorem ltr_some (k : Nat) : (ltr k).toList.isEmpty = false := by rw [ByteArray.toList_eq]; rfl
set_option maxHeartbeats 16000000 in
theorem walk_FnBasicAt (a0 : Option Addr) (len0 cap0 : Nat) (z0 : List Int) (w : World) (w0 : IsRow .u8 w a0 len0 cap0 z0) (hB : TB w) :
    Calls Tryd.prog 6 #[.slice a0 len0 cap0] w fun e w' => e = .returned (.bool true) ∧ Below w.heap.size w w' := by
  have HB := hid hB
  clear hB
  by_cases hl : len0 ≤ 1048576
  · have hd : decide ((1048576 : Int) < (len0 : Int)) = false := by simp; omega
    have HS := AllLt.start w; go_enter Tryd.func6, Tryd.ntmps6
    go_wp2_with fail
    refine (DrawBasicAt_any _ _ _ _ _ w0).mono ?_
    rintro e w1 ⟨v, u, ⟨hv, hu⟩, rfl, hb⟩
    have HB1 := hid (HB.out.below hb)
    have Hb := hid hb
    clear w0 hb
    rcases bat_cases v u with ⟨k, hk, e1, e2, hr⟩ | ⟨hn, hr⟩
    · have E1 : Hid (ltrI (batI v u) = ltr k) := hid (by rw [batI_hit hr, ltrI_nat])
      have E2 : Hid (zfI (lixI (ltr k)) = v ∧ ztI (lixI (ltr k)) = u) := hid (by rw [lixI_hit (lix_ltr hk), zfI_nat, ztI_nat]; exact ⟨e1, e2⟩)
      have hne := ltr_some k
      have hsm := same_t (Eq.refl (ltr k))
      clear hr hv hu
      rcases nat13 hk with rfl | rfl | rfl | rfl | rfl | rfl | rfl | rfl | rfl | rfl | rfl | rfl | rfl
      all_goals
        simp only [zf, zt] at e1 e2
        subst e1 e2
        clear hk
        all_goals
          go_wp2_with (first | (go_at_call 23; (with_reducible refine (iBasicAt_any _ _ _ HB1.out).mono ?_); rintro e w2 ⟨rfl, hb2⟩; rw [E1.out]; have HB2 := hid (HB1.out.below hb2); have Hb2 := hid (Hb.out.trans (hb2.mono Hb.out.size)); clear hb2) | (go_at_call 37; (with_reducible refine (sBasicAt_any _ _ _).mono ?_); rintro e w' ⟨rfl, rfl⟩; rw [E1.out]) | (go_at_call 19; (with_reducible refine (iZonesOf_any _ _ HB2.out).mono ?_); rintro e w3 ⟨rfl, hb3⟩; rw [E2.out.1, E2.out.2]; have Hb3 := hid (Hb2.out.trans (hb3.mono Hb2.out.size)); clear hb3))
          go_ret
          exact ⟨rfl, Hb3.out⟩
    · have E1 : Hid (ltrI (batI v u) = ⟨#[]⟩) := hid (by rw [batI_miss hr]; rfl)
      have E2 : Hid (zfI (lixI ⟨#[]⟩) = -1 ∧ ztI (lixI ⟨#[]⟩) = -1) := hid (by decide +kernel)
      have q0 := hn 0 (by omega); have q1 := hn 1 (by omega); have q2 := hn 2 (by omega); have q3 := hn 3 (by omega); have q4 := hn 4 (by omega); have q5 := hn 5 (by omega); have q6 := hn 6 (by omega)
      have q7 := hn 7 (by omega); have q8 := hn 8 (by omega); have q9 := hn 9 (by omega); have q10 := hn 10 (by omega); have q11 := hn 11 (by omega); have q12 := hn 12 (by omega)
      clear hn hr
      simp only [zf, zt] at q0 q1 q2 q3 q4 q5 q6 q7 q8 q9 q10 q11 q12
      rcases hv with rfl | rfl | rfl | rfl | rfl | rfl <;> rcases hu with rfl | rfl | rfl | rfl | rfl | rfl | rfl
      all_goals
        first
        | (exfalso; omega)
        | (clear q0 q1 q2 q3 q4 q5 q6 q7 q8 q9 q10 q11 q12
           go_wp2_with (first | (go_at_call 23; (with_reducible refine (iBasicAt_any _ _ _ HB1.out).mono ?_); rintro e w2 ⟨rfl, hb2⟩; rw [E1.out]; have HB2 := hid (HB1.out.below hb2); have Hb2 := hid (Hb.out.trans (hb2.mono Hb.out.size)); clear hb2) | (go_at_call 37; (with_reducible refine (sBasicAt_any _ _ _).mono ?_); rintro e w' ⟨rfl, rfl⟩; rw [E1.out]) | (go_at_call 19; (with_reducible refine (iZonesOf_any _ _ HB2.out).mono ?_); rintro e w3 ⟨rfl, hb3⟩; rw [E2.out.1, E2.out.2]; have Hb3 := hid (Hb2.out.trans (hb3.mono Hb2.out.size)); clear hb3))
           go_ret
           exact ⟨rfl, Hb3.out⟩)
  · have hd : decide ((1048576 : Int) < (len0 : Int)) = true := by simp; omega
    have HS := AllLt.start w; go_enter Tryd.func6, Tryd.ntmps6
    go_wp2
    go_ret
    exact ⟨rfl, Below.refl _ _⟩
end Go.Proofs.YtnbjbkbfdpdbfaaDoor.C
