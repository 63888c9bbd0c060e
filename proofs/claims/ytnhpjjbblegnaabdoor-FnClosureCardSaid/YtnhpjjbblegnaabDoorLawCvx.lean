/- The law of convex relations. -/
import Derived.Test.YtnhpjjbblegnaabDoorDrawLat
import Derived.Test.YtnhpjjbblegnaabDoorHulX
import Derived.Test.YtnhpjjbblegnaabDoorRelU
import Derived.Test.YtnhpjjbblegnaabDoorCmpW
import Derived.Test.YtnhpjjbblegnaabDoorLatN
namespace Go.Proofs.YtnhpjjbblegnaabDoor.C
open Go.RowKit
set_option linter.unusedVariables false
set_option linter.unusedSimpArgs false
theorem cvB_in {n : Nat} (h : n < 8192) (hc : n ∈ cvL) : cvB n = true := by rw [cvB_on h, cvL_hull n hc]; simp
set_option maxHeartbeats 4000000 in
set_option maxRecDepth 100000 in
theorem walk_FnConvex (a0 : Option Addr) (len0 cap0 : Nat) (z0 : List Int) (a1 : Option Addr) (len1 cap1 : Nat) (z1 : List Int) (w : World) (w0 : IsRow .u8 w a0 len0 cap0 z0) (w1 : IsRow .u8 w a1 len1 cap1 z1) (hB : TB w) :
    Calls Tryd.prog 3 #[.slice a0 len0 cap0, .slice a1 len1 cap1] w fun e w' => e = .returned (.bool true) ∧ Below w.heap.size w w' := by
  have HT0 := hid hB
  clear hB
  by_cases hl : len0 ≤ 1048576
  · have hd : decide ((1048576 : Int) < (len0 : Int)) = false := by simp; omega
    by_cases hl1 : len1 ≤ 1048576
    · have hd1 : decide ((1048576 : Int) < (len1 : Int)) = false := by simp; omega
      have HS := AllLt.start w; go_enter Tryd.func3, Tryd.ntmps3
      go_wp2_with fail
      refine (DrawConvexHull_any _ _ _ _ _ w0).mono ?_
      rintro e wa ⟨r, _, rfl, hb⟩
      have HT := hid (HT0.out.below hb)
      have Hb := hid hb
      have W1 := hid (w1.below hb)
      clear w0 w1 hb HS
      rcases rv_cases r with h | ⟨n, hn, rfl⟩
      · have E1 := hid (hulI_off h)
        have C1 := hid (cvB_off h)
        clear h W1
        go_wp2_with (first | (go_at_call 14; (with_reducible refine (iConvexHull_any _ _ (HT.out.below (by go_grown))).mono ?_); rintro e w' ⟨rfl, hb⟩; (first | rw [E1.out]); obtain ⟨HB, hz0, hz, hc, hf⟩ := bst (w0 := wa) (by go_grown) hb; clear hb hz hc hf hz0) | (go_at_call 16; (with_reducible refine (sConvexHull_any _ _).mono ?_); rintro e w' ⟨rfl, hb⟩; (first | rw [E1.out]); obtain ⟨HB, hz0, hz, hc, hf⟩ := bst (w0 := wa) (by go_grown) hb; clear hb hz hc hf hz0) | (go_at_call 15; (with_reducible refine (iIsConvex_any _ _ (HT.out.below (by go_grown))).mono ?_); rintro e w' ⟨rfl, hb⟩; (first | rw [C1.out]); obtain ⟨HB, hz0, hz, hc, hf⟩ := bst (w0 := wa) (by go_grown) hb; clear hb hz hc hf hz0) | (go_at_call 17; (with_reducible refine (sIsConvex_any _ _).mono ?_); rintro e w' ⟨rfl, hb⟩; (first | rw [C1.out]); obtain ⟨HB, hz0, hz, hc, hf⟩ := bst (w0 := wa) (by go_grown) hb; clear hb hz hc hf hz0))
        go_ret
        exact ⟨rfl, Hb.out.trans (Below.mono (by go_grown) Hb.out.size)⟩
      · have hh := hull_in n
        have hlt := hull_lt n
        have E1 := hid (hulI_on hn)
        have C1 := hid (cvB_on hn)
        have E5 := hid ((hulI_on hlt).trans (by rw [hull_idem]))
        have C2 := hid (cvB_in hlt hh)
        have T1 := hid (turI_n hlt)
        have T2 := hid (turI_n hn)
        have E6 := hid ((hulI_on (turN_lt n)).trans (by rw [← hull_tur hn]))
        have M1 := hid (mirI_n hlt)
        have M2 := hid (mirI_n hn)
        have E7 := hid ((hulI_on (mirN_lt n)).trans (by rw [← hull_mir hn]))
        have o1 : (bits .or .i64 ((hull n : Nat) : Int) (n : Int) == ((hull n : Nat) : Int)) = true := by rw [i64_or _ _ hlt hn, hull_sub hn]; simp
        have p1 : decide (((hull n : Nat) : Int) < 0) = false := by simp
        have Hh := hid hh
        have Hlt := hid hlt
        clear hh hlt
        generalize hull n = h at *
        cases q : decide ((h : Int) = n)
        all_goals
          have q2 : ((h : Int) == (n : Int)) = _ := q
          rw [q] at C1
          clear q
          generalize turN h = t at *
          generalize turN n = tn at *
          generalize mirN h = m at *
          generalize mirN n = mn at *
          go_wp2_with (first | (go_at_call 14; (with_reducible refine (iConvexHull_any _ _ (HT.out.below (by go_grown))).mono ?_); rintro e w' ⟨rfl, hb⟩; (first | rw [E1.out]); obtain ⟨HB, hz0, hz, hc, hf⟩ := bst (w0 := wa) (by go_grown) hb; clear hb hz hc hf hz0) | (go_at_call 16; (with_reducible refine (sConvexHull_any _ _).mono ?_); rintro e w' ⟨rfl, hb⟩; (first | rw [E1.out]); obtain ⟨HB, hz0, hz, hc, hf⟩ := bst (w0 := wa) (by go_grown) hb; clear hb hz hc hf hz0) | (go_at_call 15; (with_reducible refine (iIsConvex_any _ _ (HT.out.below (by go_grown))).mono ?_); rintro e w' ⟨rfl, hb⟩; (first | rw [C1.out]); obtain ⟨HB, hz0, hz, hc, hf⟩ := bst (w0 := wa) (by go_grown) hb; clear hb hz hc hf hz0) | (go_at_call 17; (with_reducible refine (sIsConvex_any _ _).mono ?_); rintro e w' ⟨rfl, hb⟩; (first | rw [C1.out]); obtain ⟨HB, hz0, hz, hc, hf⟩ := bst (w0 := wa) (by go_grown) hb; clear hb hz hc hf hz0))
          refine (DrawConvexHull_any _ _ _ _ _ (W1.out.below (by go_grown))).mono ?_
          rintro e wb ⟨u, _, rfl, hb⟩
          have HBb : Below wa.heap.size wa wb := (bst (w0 := wa) (by go_grown) hb).1
          have HT2 := hid (HT.out.below HBb)
          have Hb2 := hid (Hb.out.trans (HBb.mono Hb.out.size))
          clear hb HBb W1 HT Hb
          try clear HB
          rcases rv_cases u with hu | ⟨x, hx, rfl⟩
          · have E8 := hid (hulI_off hu)
            clear hu
            go_wp2_with (first | (go_at_call 14; (with_reducible refine (iConvexHull_any _ _ (HT2.out.below (by go_grown))).mono ?_); rintro e w' ⟨rfl, hb⟩; (first | rw [E1.out] | rw [E5.out] | rw [E6.out] | rw [E7.out] | rw [E8.out]); obtain ⟨HB, hz0, hz, hc, hf⟩ := bst (w0 := wb) (by go_grown) hb; clear hb hz hc hf hz0) | (go_at_call 15; (with_reducible refine (iIsConvex_any _ _ (HT2.out.below (by go_grown))).mono ?_); rintro e w' ⟨rfl, hb⟩; (first | rw [C1.out] | rw [C2.out]); obtain ⟨HB, hz0, hz, hc, hf⟩ := bst (w0 := wb) (by go_grown) hb; clear hb hz hc hf hz0) | (go_at_call 19; (with_reducible refine (iTurnRel_any _ _ (HT2.out.below (by go_grown))).mono ?_); rintro e w' ⟨rfl, hb⟩; (first | rw [T1.out] | rw [T2.out]); obtain ⟨HB, hz0, hz, hc, hf⟩ := bst (w0 := wb) (by go_grown) hb; clear hb hz hc hf hz0) | (go_at_call 20; (with_reducible refine (iMirrorRel_any _ _ (HT2.out.below (by go_grown))).mono ?_); rintro e w' ⟨rfl, hb⟩; (first | rw [M1.out] | rw [M2.out]); obtain ⟨HB, hz0, hz, hc, hf⟩ := bst (w0 := wb) (by go_grown) hb; clear hb hz hc hf hz0))
            go_ret
            exact ⟨rfl, Hb2.out.trans (Below.mono (by go_grown) Hb2.out.size)⟩
          · have E8 := hid (hulI_on hx)
            have hs := hull_in x
            have slt := hull_lt x
            have C3 : Hid (cvB (bits .and .i64 (h : Int) ((hull x : Nat) : Int)) = true) := hid (by rw [i64_and _ _ Hlt.out slt]; exact cvB_in (Nat.lt_of_le_of_lt Nat.and_le_left Hlt.out) (hull_and Hh.out hs))
            have D1 := hid (cmpI_on Hlt.out slt)
            have C4 := hid (cvB_in (cmN_lt h (hull x)) (cv_comp Hh.out hs))
            have p2 : decide (0 ≤ ((hull x : Nat) : Int)) = true := by simp
            clear hs slt hx
            generalize hull x = s at *
            generalize cmN h s = c at *
            go_wp2_with (first | (go_at_call 14; (with_reducible refine (iConvexHull_any _ _ (HT2.out.below (by go_grown))).mono ?_); rintro e w' ⟨rfl, hb⟩; (first | rw [E1.out] | rw [E5.out] | rw [E6.out] | rw [E7.out] | rw [E8.out]); obtain ⟨HB, hz0, hz, hc, hf⟩ := bst (w0 := wb) (by go_grown) hb; clear hb hz hc hf hz0) | (go_at_call 15; (with_reducible refine (iIsConvex_any _ _ (HT2.out.below (by go_grown))).mono ?_); rintro e w' ⟨rfl, hb⟩; (first | rw [C1.out] | rw [C2.out] | rw [C3.out] | rw [C4.out]); obtain ⟨HB, hz0, hz, hc, hf⟩ := bst (w0 := wb) (by go_grown) hb; clear hb hz hc hf hz0) | (go_at_call 19; (with_reducible refine (iTurnRel_any _ _ (HT2.out.below (by go_grown))).mono ?_); rintro e w' ⟨rfl, hb⟩; (first | rw [T1.out] | rw [T2.out]); obtain ⟨HB, hz0, hz, hc, hf⟩ := bst (w0 := wb) (by go_grown) hb; clear hb hz hc hf hz0) | (go_at_call 20; (with_reducible refine (iMirrorRel_any _ _ (HT2.out.below (by go_grown))).mono ?_); rintro e w' ⟨rfl, hb⟩; (first | rw [M1.out] | rw [M2.out]); obtain ⟨HB, hz0, hz, hc, hf⟩ := bst (w0 := wb) (by go_grown) hb; clear hb hz hc hf hz0) | (go_at_call 18; (with_reducible refine (iComposeRel_any _ _ _ (HT2.out.below (by go_grown))).mono ?_); rintro e w' ⟨rfl, hb⟩; (first | rw [D1.out]); obtain ⟨HB, hz0, hz, hc, hf⟩ := bst (w0 := wb) (by go_grown) hb; clear hb hz hc hf hz0))
            go_ret
            exact ⟨rfl, Hb2.out.trans (Below.mono (by go_grown) Hb2.out.size)⟩
    · have hd1 : decide ((1048576 : Int) < (len1 : Int)) = true := by simp; omega
      have HS := AllLt.start w; go_enter Tryd.func3, Tryd.ntmps3
      go_wp2
      go_ret
      exact ⟨rfl, Below.refl _ _⟩
  · have hd : decide ((1048576 : Int) < (len0 : Int)) = true := by simp; omega
    have HS := AllLt.start w; go_enter Tryd.func3, Tryd.ntmps3
    go_wp2
    go_ret
    exact ⟨rfl, Below.refl _ _⟩
end Go.Proofs.YtnhpjjbblegnaabDoor.C
