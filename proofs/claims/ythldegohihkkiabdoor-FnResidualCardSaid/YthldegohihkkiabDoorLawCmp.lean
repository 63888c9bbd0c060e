/- The laws of composed relations and of residuals. -/
import Derived.Test.YthldegohihkkiabDoorDrawRel
import Derived.Test.YthldegohihkkiabDoorRelU
import Derived.Test.YthldegohihkkiabDoorRes
import Derived.Test.YthldegohihkkiabDoorCmpM
import Derived.Test.YthldegohihkkiabDoorPrs
namespace Go.Proofs.YthldegohihkkiabDoor.C
open Go.RowKit
set_option linter.unusedVariables false
set_option linter.unusedSimpArgs false
theorem prs_e : prs ⟨#[101]⟩ = (64, true) := by decide +kernel
theorem cmpI_n {n m : Nat} (h : n < 8192) (h' : m < 8192) : cmpI n m = (cmN n m : Nat) := cmpI_on h h'
set_option maxHeartbeats 4000000 in
set_option maxRecDepth 100000 in
theorem walk_FnComposeRel (a0 : Option Addr) (len0 cap0 : Nat) (z0 : List Int) (a1 : Option Addr) (len1 cap1 : Nat) (z1 : List Int) (w : World) (w0 : IsRow .u8 w a0 len0 cap0 z0) (w1 : IsRow .u8 w a1 len1 cap1 z1) (hB : TB w) :
    Calls Tryd.prog 7 #[.slice a0 len0 cap0, .slice a1 len1 cap1] w fun e w' => e = .returned (.bool true) ∧ Below w.heap.size w w' := by
  have HT0 := hid hB
  clear hB
  by_cases hl : len0 ≤ 1048576
  · have hd : decide ((1048576 : Int) < (len0 : Int)) = false := by simp; omega
    by_cases hl1 : len1 ≤ 1048576
    · have hd1 : decide ((1048576 : Int) < (len1 : Int)) = false := by simp; omega
      have HS := AllLt.start w; go_enter Tryd.func7, Tryd.ntmps7
      go_wp2_with fail
      refine (DrawComposeRel_any _ _ _ _ _ w0).mono ?_
      rintro e wa ⟨r, s, _, rfl, hb⟩
      have HT := hid (HT0.out.below hb)
      have Hb := hid hb
      have W1 := hid (w1.below hb)
      clear w0 w1 hb HS
      by_cases hrs : rv r = true ∧ rv s = true
      · obtain ⟨h1, h2⟩ := hrs
        obtain ⟨n, hn, rfl⟩ := rv_on h1
        obtain ⟨m, hm, rfl⟩ := rv_on h2
        have E0 := hid (cmpI_n hn hm)
        have hc := cmN_lt n m
        clear h1 h2
        have hc0 : decide (((cmN n m : Nat) : Int) < 0) = false := by simp
        go_wp2_with (first | (go_at_call 44; (with_reducible refine (iComposeRel_any _ _ _ (HT.out.below (by go_grown))).mono ?_); rintro e w' ⟨rfl, hb⟩; rw [E0.out]; obtain ⟨HB, hz0, hz, hc, hf⟩ := bst (w0 := wa) (by go_grown) hb; clear hb hz hc hf hz0) | (go_at_call 45; (with_reducible refine (sComposeRel_any _ _ _).mono ?_); rintro e w' ⟨rfl, hb⟩; rw [E0.out]; obtain ⟨HB, hz0, hz, hc, hf⟩ := bst (w0 := wa) (by go_grown) hb; clear hb hz hc hf hz0))
        refine (DrawComposeRel_any _ _ _ _ _ (W1.out.below (by go_grown))).mono ?_
        rintro e wb ⟨u, u2, _, rfl, hb⟩
        have HBb : Below wa.heap.size wa wb := (bst (w0 := wa) (by go_grown) hb).1
        have HT2 := hid (HT.out.below HBb)
        have Hb2 := hid (Hb.out.trans (HBb.mono Hb.out.size))
        clear hb HBb W1 HT Hb
        try clear HB
        have HPe := hid prs_e
        have F1 := hid (turI_n hc)
        have F2 := hid (turI_n hn)
        have F3 := hid (turI_n hm)
        have F4 := hid ((cmpI_n (turN_lt m) (turN_lt n)).trans (by rw [← cm_tur]))
        have M1 := hid (mirI_n hc)
        have M2 := hid (mirI_n hn)
        have M3 := hid (mirI_n hm)
        have M4 := hid ((cmpI_n (mirN_lt n) (mirN_lt m)).trans (by rw [← cm_mir]))
        have O1 : Hid (cmpI (n : Int) 64 = n) := hid ((cmpI_n (m := 64) hn (by omega)).trans (by rw [(cm_one hn).1]))
        have O2 : Hid (cmpI 64 (n : Int) = n) := hid ((cmpI_n (n := 64) (by omega) hn).trans (by rw [(cm_one hn).2]))
        have hzz : (((cmN n m : Nat) : Int) == 0) = (((n : Int) == 0) || ((m : Int) == 0)) := by
          have := cm_zero hn hm
          rw [Bool.eq_iff_iff]
          simp only [beq_iff_eq, Bool.or_eq_true]
          omega
        rcases rv_cases u with hu | ⟨x, hx, rfl⟩
        · have HU' := hid hu
          clear hu
          generalize cmN n m = c at *
          generalize turN c = tc at *
          generalize turN n = tn at *
          generalize turN m = tm' at *
          generalize mirN c = mc at *
          generalize mirN n = mn at *
          generalize mirN m = mm at *
          cases z1 : ((n : Int) == 0) <;> cases z2 : ((m : Int) == 0)
          all_goals
            rw [z1, z2] at hzz
            simp only [Bool.or_false, Bool.or_true, Bool.false_or, Bool.true_or] at hzz
            go_wp2_with (first | (go_at_call 17; (with_reducible refine (iRelValid_any _ _).mono ?_); rintro e w' ⟨rfl, rfl⟩; rw [HU'.out]) | (go_at_call 19; (with_reducible refine (iParseRel_any _ _ (HT2.out.below (by go_grown))).mono ?_); rintro e w' ⟨rfl, hb⟩; simp only [HPe.out]; obtain ⟨HB, hz0, hz, hc, hf⟩ := bst (w0 := wb) (by go_grown) hb; clear hb hz hc hf hz0) | (go_at_call 30; (with_reducible refine (iTurnRel_any _ _ (HT2.out.below (by go_grown))).mono ?_); rintro e w' ⟨rfl, hb⟩; (first | rw [F1.out] | rw [F2.out] | rw [F3.out]); obtain ⟨HB, hz0, hz, hc, hf⟩ := bst (w0 := wb) (by go_grown) hb; clear hb hz hc hf hz0) | (go_at_call 31; (with_reducible refine (iMirrorRel_any _ _ (HT2.out.below (by go_grown))).mono ?_); rintro e w' ⟨rfl, hb⟩; (first | rw [M1.out] | rw [M2.out] | rw [M3.out]); obtain ⟨HB, hz0, hz, hc, hf⟩ := bst (w0 := wb) (by go_grown) hb; clear hb hz hc hf hz0) | (go_at_call 44; (with_reducible refine (iComposeRel_any _ _ _ (HT2.out.below (by go_grown))).mono ?_); rintro e w' ⟨rfl, hb⟩; (first | rw [F4.out] | rw [M4.out] | rw [O1.out] | rw [O2.out]); obtain ⟨HB, hz0, hz, hc, hf⟩ := bst (w0 := wb) (by go_grown) hb; clear hb hz hc hf hz0))
            go_ret
            exact ⟨rfl, Hb2.out.trans (Below.mono (by go_grown) Hb2.out.size)⟩
        · have HU' := hid (rv_nat x hx)
          have P1 := hid (cmpI_n hc hx)
          have P2 := hid (cmpI_n hm hx)
          have P3 := hid ((cmpI_n hn (cmN_lt m x)).trans (by rw [← cm_asc]))
          have P4 := hid (cmpI_n hn hx)
          have P5 : Hid (cmpI (n : Int) (bits .or .i64 (m : Int) (x : Int)) = bits .or .i64 ((cmN n m : Nat) : Int) ((cmN n x : Nat) : Int)) := hid (by
            rw [i64_or m x hm hx, cmpI_n hn (or_lt hm hx), cm_or, i64_or _ _ hc (cmN_lt _ _)])
          generalize cmN (cmN n m) x = p1 at *
          generalize cmN m x = p2 at *
          generalize cmN n x = p4 at *
          generalize cmN n m = c at *
          generalize turN c = tc at *
          generalize turN n = tn at *
          generalize turN m = tm' at *
          generalize mirN c = mc at *
          generalize mirN n = mn at *
          generalize mirN m = mm at *
          cases z1 : ((n : Int) == 0) <;> cases z2 : ((m : Int) == 0)
          all_goals
            rw [z1, z2] at hzz
            simp only [Bool.or_false, Bool.or_true, Bool.false_or, Bool.true_or] at hzz
            go_wp2_with (first | (go_at_call 17; (with_reducible refine (iRelValid_any _ _).mono ?_); rintro e w' ⟨rfl, rfl⟩; rw [HU'.out]) | (go_at_call 19; (with_reducible refine (iParseRel_any _ _ (HT2.out.below (by go_grown))).mono ?_); rintro e w' ⟨rfl, hb⟩; simp only [HPe.out]; obtain ⟨HB, hz0, hz, hc, hf⟩ := bst (w0 := wb) (by go_grown) hb; clear hb hz hc hf hz0) | (go_at_call 30; (with_reducible refine (iTurnRel_any _ _ (HT2.out.below (by go_grown))).mono ?_); rintro e w' ⟨rfl, hb⟩; (first | rw [F1.out] | rw [F2.out] | rw [F3.out]); obtain ⟨HB, hz0, hz, hc, hf⟩ := bst (w0 := wb) (by go_grown) hb; clear hb hz hc hf hz0) | (go_at_call 31; (with_reducible refine (iMirrorRel_any _ _ (HT2.out.below (by go_grown))).mono ?_); rintro e w' ⟨rfl, hb⟩; (first | rw [M1.out] | rw [M2.out] | rw [M3.out]); obtain ⟨HB, hz0, hz, hc, hf⟩ := bst (w0 := wb) (by go_grown) hb; clear hb hz hc hf hz0) | (go_at_call 44; (with_reducible refine (iComposeRel_any _ _ _ (HT2.out.below (by go_grown))).mono ?_); rintro e w' ⟨rfl, hb⟩; (first | rw [P5.out] | rw [P1.out] | rw [P2.out] | rw [P3.out] | rw [P4.out] | rw [F4.out] | rw [M4.out] | rw [O1.out] | rw [O2.out]); obtain ⟨HB, hz0, hz, hc, hf⟩ := bst (w0 := wb) (by go_grown) hb; clear hb hz hc hf hz0))
            go_ret
            exact ⟨rfl, Hb2.out.trans (Below.mono (by go_grown) Hb2.out.size)⟩
      · have E0 : Hid (cmpI r s = -1) := hid (by
          cases h1 : rv r
          · exact cmpI_off1 h1
          · cases h2 : rv s
            · exact cmpI_off2 h2
            · exact absurd ⟨h1, h2⟩ hrs)
        clear hrs
        go_wp2_with (first | (go_at_call 44; (with_reducible refine (iComposeRel_any _ _ _ (HT.out.below (by go_grown))).mono ?_); rintro e w' ⟨rfl, hb⟩; rw [E0.out]; obtain ⟨HB, hz0, hz, hc, hf⟩ := bst (w0 := wa) (by go_grown) hb; clear hb hz hc hf hz0) | (go_at_call 45; (with_reducible refine (sComposeRel_any _ _ _).mono ?_); rintro e w' ⟨rfl, hb⟩; rw [E0.out]; obtain ⟨HB, hz0, hz, hc, hf⟩ := bst (w0 := wa) (by go_grown) hb; clear hb hz hc hf hz0))
        go_ret
        exact ⟨rfl, Hb.out.trans (Below.mono (by go_grown) Hb.out.size)⟩
    · have hd1 : decide ((1048576 : Int) < (len1 : Int)) = true := by simp; omega
      have HS := AllLt.start w; go_enter Tryd.func7, Tryd.ntmps7
      go_wp2
      go_ret
      exact ⟨rfl, Below.refl _ _⟩
  · have hd : decide ((1048576 : Int) < (len0 : Int)) = true := by simp; omega
    have HS := AllLt.start w; go_enter Tryd.func7, Tryd.ntmps7
    go_wp2
    go_ret
    exact ⟨rfl, Below.refl _ _⟩
end Go.Proofs.YthldegohihkkiabDoor.C
