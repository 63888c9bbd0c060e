/- The law of residuals. -/
import Derived.Test.YthldegohihkkiabDoorLawCmp
namespace Go.Proofs.YthldegohihkkiabDoor.C
open Go.RowKit
set_option linter.unusedVariables false
set_option linter.unusedSimpArgs false
theorem DrawResidualRel_any (a : Option Addr) (len cap : Nat) (zs : List Int) (w : World) (h : IsRow .u8 w a len cap zs) :
    Calls Tryd.prog 46 #[.slice a len cap] w (Out2 (fun _ _ => True) w) := by
  have HS := AllLt.start w; go_enter Tryd.func46, Tryd.ntmps46
  go_wp2_with fail
  refine (l14Open_any _ _ _ _ _ h).mono ?_
  rintro e w1 ⟨rfl, hR, hb⟩
  go_wp2_with fail
  refine (l3Open_any _ _ 0 _ hR (by omega)).mono ?_
  rintro e w2 ⟨v, hv, rfl, hR2, hW⟩
  go_wp2_with fail
  refine (l3Open_any _ _ 4 _ hR2 (by omega)).mono ?_
  rintro e w3 ⟨u, hu, rfl, hR3, hW3⟩
  have HF3 : Hid (∀ e w', e = .returned (.tuple #[.int .i64 v, .int .i64 u]) → w3 = w' → Out2 (fun _ _ => True) w e w') := hid fun e w' c1 c2 => Out2.of (good := fun _ _ => True) trivial hb (hW.trans hW3) c1 c2
  cases hr1 : rv v
  · have H1 := hid hr1
    clear hR hb hR2 hW h hR3 hW3 hr1
    go_wp2_with (first | (go_at_call 18; (with_reducible refine (sRelValid_any v _).mono ?_); rintro e w' ⟨rfl, rfl⟩; rw [H1.out]))
    go_ret2
    exact HF3.out _ _ rfl rfl
  · have H1 := hid hr1
    cases hr2 : rv u
    · have H2 := hid hr2
      by_cases e : v = u
      · exfalso; subst e; exact Bool.noConfusion (hr1.symm.trans hr2)
      · clear hR hb hR2 hW h hR3 hW3 hr1 hr2
        go_wp2_with (first | (go_at_call 18; (with_reducible refine (sRelValid_any v _).mono ?_); rintro e w' ⟨rfl, rfl⟩; rw [H1.out]) | (go_at_call 18; (with_reducible refine (sRelValid_any u _).mono ?_); rintro e w' ⟨rfl, rfl⟩; rw [H2.out]))
        go_ret2
        exact HF3.out _ _ rfl rfl
    · have H2 := hid hr2
      clear hr1 hr2
      have HK := hid (And.intro hb (And.intro hW (And.intro hR3 hW3)))
      clear hR hb hR2 hW h hR3 hW3
      go_wp2_with (first | (go_at_call 18; (with_reducible refine (sRelValid_any v _).mono ?_); rintro e w' ⟨rfl, rfl⟩; rw [H1.out]) | (go_at_call 18; (with_reducible refine (sRelValid_any u _).mono ?_); rintro e w' ⟨rfl, rfl⟩; rw [H2.out]))
      refine (pick_any _ _ 8 _ _ HK.out.2.2.1 (by omega) (by omega) (by omega)).mono ?_
      rintro e w4 ⟨k, hk, rfl, hR4, hW4⟩
      have HW4 := hid (HK.out.2.1.trans (HK.out.2.2.2.trans hW4))
      by_cases hk0 : k = 0
      · subst hk0
        clear HF3
        go_wp2_with fail
        refine (l3Some_any _ _ 9 _ hR4 (by omega)).mono ?_
        rintro e w5 ⟨x, hx, rfl, hR5, hW5⟩
        go_wp2_with fail
        (with_reducible refine (sComposeRel_any _ _ _).mono ?_)
        rintro e w6 ⟨rfl, hb6⟩
        have HF : Hid (∀ y e w', e = .returned (.tuple #[.int .i64 v, .int .i64 y]) → w6 = w' → Out2 (fun _ _ => True) w e w') := hid fun y e w' c1 c2 => Out2.of (good := fun _ _ => True) trivial HK.out.1 (HW4.out.trans (hW5.trans (Wr.of_below hb6))) c1 c2
        clear hR4 hW4 hR5 hW5 hb6 hx
        go_wp2
        go_ret2
        exact HF.out _ _ _ rfl rfl
      · have hk1 : ((k : Int) == 0) = false := by simp; omega
        have HF : Hid (∀ e w', e = .returned (.tuple #[.int .i64 v, .int .i64 u]) → w4 = w' → Out2 (fun _ _ => True) w e w') := hid fun e w' c1 c2 => Out2.of (good := fun _ _ => True) trivial HK.out.1 HW4.out c1 c2
        clear hR4 hW4 HF3
        go_wp2
        go_ret2
        exact HF.out _ _ rfl rfl
theorem and_z {a b : Nat} (ha : a < 8192) (hb : b < 8192) : (bits .and .i64 (a : Int) (b : Int) == 0) = decide (a &&& b = 0) := by
  rw [i64_and a b ha hb, Bool.eq_iff_iff]
  simp only [beq_iff_eq, decide_eq_true_eq]
  omega
theorem resI_n {n m : Nat} (h : n < 8192) (h' : m < 8192) : resI n m = (reN n m : Nat) := resI_on h h'
set_option maxHeartbeats 4000000 in
set_option maxRecDepth 100000 in
theorem walk_FnResidual (a0 : Option Addr) (len0 cap0 : Nat) (z0 : List Int) (a1 : Option Addr) (len1 cap1 : Nat) (z1 : List Int) (w : World) (w0 : IsRow .u8 w a0 len0 cap0 z0) (w1 : IsRow .u8 w a1 len1 cap1 z1) (hB : TB w) :
    Calls Tryd.prog 8 #[.slice a0 len0 cap0, .slice a1 len1 cap1] w fun e w' => e = .returned (.bool true) ∧ Below w.heap.size w w' := by
  have HT0 := hid hB
  clear hB
  by_cases hl : len0 ≤ 1048576
  · have hd : decide ((1048576 : Int) < (len0 : Int)) = false := by simp; omega
    by_cases hl1 : len1 ≤ 1048576
    · have hd1 : decide ((1048576 : Int) < (len1 : Int)) = false := by simp; omega
      have HS := AllLt.start w; go_enter Tryd.func8, Tryd.ntmps8
      go_wp2_with fail
      refine (DrawResidualRel_any _ _ _ _ _ w0).mono ?_
      rintro e wa ⟨r, s, _, rfl, hb⟩
      have HT := hid (HT0.out.below hb)
      have Hb := hid hb
      have W1 := hid (w1.below hb)
      clear w0 w1 hb HS
      by_cases hrs : rv r = true ∧ rv s = true
      · obtain ⟨h1, h2⟩ := hrs
        obtain ⟨n, hn, rfl⟩ := rv_on h1
        obtain ⟨m, hm, rfl⟩ := rv_on h2
        have E0 := hid (resI_n hn hm)
        have hc := reN_lt n m
        clear h1 h2
        have hc0 : decide (((reN n m : Nat) : Int) < 0) = false := by simp
        go_wp2_with (first | (go_at_call 47; (with_reducible refine (iResidualRel_any _ _ _ (HT.out.below (by go_grown))).mono ?_); rintro e w' ⟨rfl, hb⟩; rw [E0.out]; obtain ⟨HB, hz0, hz, hc, hf⟩ := bst (w0 := wa) (by go_grown) hb; clear hb hz hc hf hz0) | (go_at_call 48; (with_reducible refine (sResidualRel_any _ _ _).mono ?_); rintro e w' ⟨rfl, hb⟩; rw [E0.out]; obtain ⟨HB, hz0, hz, hc, hf⟩ := bst (w0 := wa) (by go_grown) hb; clear hb hz hc hf hz0))
        refine (DrawComposeRel_any _ _ _ _ _ (W1.out.below (by go_grown))).mono ?_
        rintro e wb ⟨u, u2, _, rfl, hb⟩
        have HBb : Below wa.heap.size wa wb := (bst (w0 := wa) (by go_grown) hb).1
        have HT2 := hid (HT.out.below HBb)
        have Hb2 := hid (Hb.out.trans (HBb.mono Hb.out.size))
        clear hb HBb W1 HT Hb
        try clear HB
        have O1 := hid (othI_n hm)
        have O2 := hid (othI_n hc)
        have F1 := hid (turI_n hn)
        have P1 := hid (cmpI_n hc hn)
        have P2 := hid ((cmpI_n (othN_lt m) (turN_lt n)).trans (by rw [← re_oth n m hm]))
        have z1 : (bits .and .i64 ((cmN (reN n m) n : Nat) : Int) ((othN m : Nat) : Int) == 0) = true := by rw [and_z (cmN_lt _ _) (othN_lt _), re_self n m hm]; rfl
        rcases rv_cases u with hu | ⟨x, hx, rfl⟩
        · have HU' := hid hu
          clear hu
          generalize cmN (reN n m) n = y at *
          generalize othN (reN n m) = oq at *
          generalize reN n m = q at *
          generalize othN m = om at *
          generalize turN n = tn at *
          go_wp2_with (first | (go_at_call 17; (with_reducible refine (iRelValid_any _ _).mono ?_); rintro e w' ⟨rfl, rfl⟩; rw [HU'.out]) | (go_at_call 32; (with_reducible refine (iOtherRel_any _ _).mono ?_); rintro e w' ⟨rfl, rfl⟩; (first | rw [O1.out] | rw [O2.out])) | (go_at_call 30; (with_reducible refine (iTurnRel_any _ _ (HT2.out.below (by go_grown))).mono ?_); rintro e w' ⟨rfl, hb⟩; rw [F1.out]; obtain ⟨HB, hz0, hz, hc, hf⟩ := bst (w0 := wb) (by go_grown) hb; clear hb hz hc hf hz0) | (go_at_call 44; (with_reducible refine (iComposeRel_any _ _ _ (HT2.out.below (by go_grown))).mono ?_); rintro e w' ⟨rfl, hb⟩; (first | rw [P1.out] | rw [P2.out]); obtain ⟨HB, hz0, hz, hc, hf⟩ := bst (w0 := wb) (by go_grown) hb; clear hb hz hc hf hz0))
          go_ret
          exact ⟨rfl, Hb2.out.trans (Below.mono (by go_grown) Hb2.out.size)⟩
        · have HU' := hid (rv_nat x hx)
          have P3 := hid (cmpI_n hx hn)
          have z2 : (bits .and .i64 ((cmN x n : Nat) : Int) ((othN m : Nat) : Int) == 0) = decide (cmN x n &&& othN m = 0) := and_z (cmN_lt _ _) (othN_lt _)
          have z3 : (bits .and .i64 (x : Int) ((othN (reN n m) : Nat) : Int) == 0) = decide (cmN x n &&& othN m = 0) := by
            rw [and_z hx (othN_lt _)]
            exact decide_eq_decide.2 (re_sub hx hm).symm
          generalize decide (cmN x n &&& othN m = 0) = B at *
          generalize cmN (reN n m) n = y at *
          generalize cmN x n = y2 at *
          generalize othN (reN n m) = oq at *
          generalize reN n m = q at *
          generalize othN m = om at *
          generalize turN n = tn at *
          cases B
          all_goals
            go_wp2_with (first | (go_at_call 17; (with_reducible refine (iRelValid_any _ _).mono ?_); rintro e w' ⟨rfl, rfl⟩; rw [HU'.out]) | (go_at_call 32; (with_reducible refine (iOtherRel_any _ _).mono ?_); rintro e w' ⟨rfl, rfl⟩; (first | rw [O1.out] | rw [O2.out])) | (go_at_call 30; (with_reducible refine (iTurnRel_any _ _ (HT2.out.below (by go_grown))).mono ?_); rintro e w' ⟨rfl, hb⟩; rw [F1.out]; obtain ⟨HB, hz0, hz, hc, hf⟩ := bst (w0 := wb) (by go_grown) hb; clear hb hz hc hf hz0) | (go_at_call 44; (with_reducible refine (iComposeRel_any _ _ _ (HT2.out.below (by go_grown))).mono ?_); rintro e w' ⟨rfl, hb⟩; (first | rw [P3.out] | rw [P1.out] | rw [P2.out]); obtain ⟨HB, hz0, hz, hc, hf⟩ := bst (w0 := wb) (by go_grown) hb; clear hb hz hc hf hz0))
            go_ret
            exact ⟨rfl, Hb2.out.trans (Below.mono (by go_grown) Hb2.out.size)⟩
      · have E0 : Hid (resI r s = -1) := hid (by
          cases h1 : rv r
          · exact resI_off1 h1
          · cases h2 : rv s
            · exact resI_off2 h2
            · exact absurd ⟨h1, h2⟩ hrs)
        clear hrs
        go_wp2_with (first | (go_at_call 47; (with_reducible refine (iResidualRel_any _ _ _ (HT.out.below (by go_grown))).mono ?_); rintro e w' ⟨rfl, hb⟩; rw [E0.out]; obtain ⟨HB, hz0, hz, hc, hf⟩ := bst (w0 := wa) (by go_grown) hb; clear hb hz hc hf hz0) | (go_at_call 48; (with_reducible refine (sResidualRel_any _ _ _).mono ?_); rintro e w' ⟨rfl, hb⟩; rw [E0.out]; obtain ⟨HB, hz0, hz, hc, hf⟩ := bst (w0 := wa) (by go_grown) hb; clear hb hz hc hf hz0))
        go_ret
        exact ⟨rfl, Hb.out.trans (Below.mono (by go_grown) Hb.out.size)⟩
    · have hd1 : decide ((1048576 : Int) < (len1 : Int)) = true := by simp; omega
      have HS := AllLt.start w; go_enter Tryd.func8, Tryd.ntmps8
      go_wp2
      go_ret
      exact ⟨rfl, Below.refl _ _⟩
  · have hd : decide ((1048576 : Int) < (len0 : Int)) = true := by simp; omega
    have HS := AllLt.start w; go_enter Tryd.func8, Tryd.ntmps8
    go_wp2
    go_ret
    exact ⟨rfl, Below.refl _ _⟩
end Go.Proofs.YthldegohihkkiabDoor.C
