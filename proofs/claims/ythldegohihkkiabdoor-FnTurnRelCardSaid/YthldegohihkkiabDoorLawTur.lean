/- The law of turned, mirrored and other relations. -/
import Derived.Test.YthldegohihkkiabDoorDrawRel
import Derived.Test.YthldegohihkkiabDoorRelU
namespace Go.Proofs.YthldegohihkkiabDoor.C
open Go.RowKit
set_option linter.unusedVariables false
set_option linter.unusedSimpArgs false
set_option maxHeartbeats 4000000 in
theorem walk_FnTurnRel (a0 : Option Addr) (len0 cap0 : Nat) (z0 : List Int) (w : World) (w0 : IsRow .u8 w a0 len0 cap0 z0) (hB : TB w) :
    Calls Tryd.prog 5 #[.slice a0 len0 cap0] w fun e w' => e = .returned (.bool true) ∧ Below w.heap.size w w' := by
  have HT0 := hid hB
  clear hB
  by_cases hl : len0 ≤ 1048576
  · have hd : decide ((1048576 : Int) < (len0 : Int)) = false := by simp; omega
    have HS := AllLt.start w; go_enter Tryd.func5, Tryd.ntmps5
    go_wp2_with fail
    refine (DrawTurnRel_any _ _ _ _ _ w0).mono ?_
    rintro e w1 ⟨v, hv, rfl, hb⟩
    have HT := hid (HT0.out.below hb)
    have Hb := hid hb
    clear w0 hb hv HS
    rcases rv_cases v with h | ⟨n, hn, rfl⟩
    · have E1 := hid (turI_off h)
      have E2 := hid (mirI_off h)
      have E3 := hid (othI_off h)
      clear h
      go_wp2_with (first | (go_at_call 30; (with_reducible refine (iTurnRel_any _ _ (HT.out.below (by go_grown))).mono ?_); rintro e w' ⟨rfl, hb⟩; rw [E1.out]; obtain ⟨HB, hz0, hz, hc, hf⟩ := bst (w0 := w1) (by go_grown) hb; clear hb hz hc hf hz0) | (go_at_call 31; (with_reducible refine (iMirrorRel_any _ _ (HT.out.below (by go_grown))).mono ?_); rintro e w' ⟨rfl, hb⟩; rw [E2.out]; obtain ⟨HB, hz0, hz, hc, hf⟩ := bst (w0 := w1) (by go_grown) hb; clear hb hz hc hf hz0) | (go_at_call 32; (with_reducible refine (iOtherRel_any _ _).mono ?_); rintro e w' ⟨rfl, rfl⟩; rw [E3.out]) | (go_at_call 34; (with_reducible refine (sTurnRel_any _ _).mono ?_); rintro e w' ⟨rfl, hb⟩; rw [E1.out]; obtain ⟨HB, hz0, hz, hc, hf⟩ := bst (w0 := w1) (by go_grown) hb; clear hb hz hc hf hz0) | (go_at_call 35; (with_reducible refine (sMirrorRel_any _ _).mono ?_); rintro e w' ⟨rfl, hb⟩; rw [E2.out]; obtain ⟨HB, hz0, hz, hc, hf⟩ := bst (w0 := w1) (by go_grown) hb; clear hb hz hc hf hz0) | (go_at_call 36; (with_reducible refine (sOtherRel_any _ _).mono ?_); rintro e w' ⟨rfl, rfl⟩; rw [E3.out]))
      go_ret
      exact ⟨rfl, Hb.out.trans (Below.mono (by go_grown) Hb.out.size)⟩
    · have E1 := hid (turI_n hn)
      have E2 := hid (mirI_n hn)
      have E3 := hid (othI_n hn)
      have E4 := hid ((turI_n (turN_lt n)).trans (by rw [tt_n hn]))
      have E5 := hid ((mirI_n (mirN_lt n)).trans (by rw [mm_n hn]))
      have E6 := hid (turI_n (mirN_lt n))
      have E7 := hid ((mirI_n (turN_lt n)).trans (by rw [← tm_n]))
      have E8 := hid ((othI_n (othN_lt n)).trans (by rw [oo_n hn]))
      have E9 := hid (turI_n (othN_lt n))
      have E10 := hid ((othI_n (turN_lt n)).trans (by rw [← to_n hn]))
      have C1 := hid (cnI_on hn)
      have C2 := hid ((cnI_on (turN_lt n)).trans (by rw [ct_n hn]))
      have C3 := hid ((cnI_on (mirN_lt n)).trans (by rw [cm_n hn]))
      have C4 : Hid (cnI (othN n : Nat) = 13 - (onesN 13 n : Nat)) := hid ((cnI_on (othN_lt n)).trans (by have := co_n hn; omega))
      have hle := ones_le hn
      have p1 : decide (((turN n : Nat) : Int) < 0) = false := by simp
      generalize turN (mirN n) = x at *
      generalize turN (othN n) = y at *
      generalize turN n = t at *
      generalize mirN n = m at *
      generalize othN n = o at *
      generalize onesN 13 n = c at *
      clear hn
      go_wp2_with (first | (go_at_call 30; (with_reducible refine (iTurnRel_any _ _ (HT.out.below (by go_grown))).mono ?_); rintro e w' ⟨rfl, hb⟩; (first | rw [E1.out] | rw [E4.out] | rw [E6.out] | rw [E9.out]); obtain ⟨HB, hz0, hz, hc, hf⟩ := bst (w0 := w1) (by go_grown) hb; clear hb hz hc hf hz0) | (go_at_call 31; (with_reducible refine (iMirrorRel_any _ _ (HT.out.below (by go_grown))).mono ?_); rintro e w' ⟨rfl, hb⟩; (first | rw [E2.out] | rw [E5.out] | rw [E7.out]); obtain ⟨HB, hz0, hz, hc, hf⟩ := bst (w0 := w1) (by go_grown) hb; clear hb hz hc hf hz0) | (go_at_call 32; (with_reducible refine (iOtherRel_any _ _).mono ?_); rintro e w' ⟨rfl, rfl⟩; (first | rw [E3.out] | rw [E8.out] | rw [E10.out])) | (go_at_call 20; (with_reducible refine (iCountBasics_any _ _).mono ?_); rintro e w' ⟨rfl, rfl⟩; (first | rw [C1.out] | rw [C2.out] | rw [C3.out] | rw [C4.out])) | (go_at_call 34; (with_reducible refine (sTurnRel_any _ _).mono ?_); rintro e w' ⟨rfl, hb⟩; rw [E1.out]; obtain ⟨HB, hz0, hz, hc, hf⟩ := bst (w0 := w1) (by go_grown) hb; clear hb hz hc hf hz0) | (go_at_call 35; (with_reducible refine (sMirrorRel_any _ _).mono ?_); rintro e w' ⟨rfl, hb⟩; rw [E2.out]; obtain ⟨HB, hz0, hz, hc, hf⟩ := bst (w0 := w1) (by go_grown) hb; clear hb hz hc hf hz0) | (go_at_call 36; (with_reducible refine (sOtherRel_any _ _).mono ?_); rintro e w' ⟨rfl, rfl⟩; rw [E3.out]))
      go_ret
      exact ⟨rfl, Hb.out.trans (Below.mono (by go_grown) Hb.out.size)⟩
  · have hd : decide ((1048576 : Int) < (len0 : Int)) = true := by simp; omega
    have HS := AllLt.start w; go_enter Tryd.func5, Tryd.ntmps5
    go_wp2
    go_ret
    exact ⟨rfl, Below.refl _ _⟩
end Go.Proofs.YthldegohihkkiabDoor.C
