/- The law of closures. -/
import Derived.Test.YtnhpjjbblegnaabDoorLawPcv
namespace Go.Proofs.YtnhpjjbblegnaabDoor.C
open Go.RowKit
set_option linter.unusedVariables false
set_option linter.unusedSimpArgs false
set_option maxHeartbeats 2000000 in
set_option maxRecDepth 100000 in
theorem walk_FnClosure (a0 : Option Addr) (len0 cap0 : Nat) (z0 : List Int) (a1 : Option Addr) (len1 cap1 : Nat) (z1 : List Int) (w : World) (w0 : IsRow .u8 w a0 len0 cap0 z0) (w1 : IsRow .u8 w a1 len1 cap1 z1) (hB : TB w) :
    Calls Tryd.prog 5 #[.slice a0 len0 cap0, .slice a1 len1 cap1] w fun e w' => e = .returned (.bool true) ∧ Below w.heap.size w w' := by
  have HT0 := hid hB
  clear hB
  by_cases hl : len0 ≤ 1048576
  · have hd : decide ((1048576 : Int) < (len0 : Int)) = false := by simp; omega
    by_cases hl1 : len1 ≤ 1048576
    · have hd1 : decide ((1048576 : Int) < (len1 : Int)) = false := by simp; omega
      have W0 := hid w1
      have HS := AllLt.start w; go_enter Tryd.func5, Tryd.ntmps5
      go_wp2_with fail
      refine (DrawClosureOf_any _ _ _ _ _ w0).mono ?_
      rintro e wa ⟨r, _, rfl, hb⟩
      have HT := hid (HT0.out.below hb)
      have Hb := hid hb
      clear w0 w1 hb HS
      rcases rv_cases r with h | ⟨n, hn, rfl⟩
      · have E1 := hid (cloI_off h)
        have R1 := hid h
        clear h
        go_wp2_with (first | (go_at_call 29; (with_reducible refine (iClosureOf_any _ _ (HT.out.below (by go_grown))).mono ?_); rintro e w' ⟨rfl, hb⟩; (first | rw [E1.out]); obtain ⟨HB, hz0, hz, hc, hf⟩ := bst (w0 := wa) (by go_grown) hb; clear hb hz hc hf hz0) | (go_at_call 30; (with_reducible refine (sClosureOf_any _ _).mono ?_); rintro e w' ⟨rfl, hb⟩; (first | rw [E1.out]); obtain ⟨HB, hz0, hz, hc, hf⟩ := bst (w0 := wa) (by go_grown) hb; clear hb hz hc hf hz0) | (go_at_call 24; (with_reducible refine (iRelValid_any _ _).mono ?_); rintro e w' ⟨rfl, rfl⟩; rw [R1.out]))
        go_ret
        exact ⟨rfl, Hb.out.trans (Below.mono (by go_grown) Hb.out.size)⟩
      · have hlt := closN_lt n
        have E1 := hid (cloI_on hn)
        have E2 := hid ((cloI_on hlt).trans (by rw [clos_idem]))
        have T1 := hid (turI_n hlt)
        have T2 := hid (turI_n hn)
        have E6 := hid ((cloI_on (turN_lt n)).trans (by rw [← clos_tur n]))
        have M1 := hid (mirI_n hlt)
        have M2 := hid (mirI_n hn)
        have E7 := hid ((cloI_on (mirN_lt n)).trans (by rw [← clos_mir n]))
        have o0 : bits .or .i64 ((closN n : Nat) : Int) (n : Int) = ((closN n : Nat) : Int) := by rw [i64_or _ _ hlt hn, (subN_or hn hlt).1 (clos_sup n)]
        have o1 : (bits .or .i64 ((closN n : Nat) : Int) (n : Int) == ((closN n : Nat) : Int)) = true := by rw [o0]; simp
        obtain ⟨hh, hhe⟩ : ∃ x, hulI ((closN n : Nat) : Int) = x := ⟨_, rfl⟩
        have H1 := hid hhe
        have H2 : Hid (hulI (bits .or .i64 ((closN n : Nat) : Int) (n : Int)) = hh) := hid (by rw [o0]; exact hhe)
        clear hhe
        have p1 : decide (((closN n : Nat) : Int) < 0) = false := by simp
        have HOR : Hid (∀ x, x < 8192 → cloI (bits .or .i64 ((closN n : Nat) : Int) ((closN x : Nat) : Int)) = bits .or .i64 ((closN n : Nat) : Int) ((closN x : Nat) : Int)) := hid fun x hx => by
          rw [i64_or _ _ hlt (closN_lt x), cloI_on (or_lt hlt (closN_lt x)), clos_or, clos_idem, clos_idem]
        clear hlt o0
        generalize closN n = c at *
        generalize turN c = t at *
        generalize turN n = tn at *
        generalize mirN c = m at *
        generalize mirN n = mn at *
        go_wp2_with (first | (go_at_call 29; (with_reducible refine (iClosureOf_any _ _ (HT.out.below (by go_grown))).mono ?_); rintro e w' ⟨rfl, hb⟩; (first | rw [E1.out]); obtain ⟨HB, hz0, hz, hc, hf⟩ := bst (w0 := wa) (by go_grown) hb; clear hb hz hc hf hz0) | (go_at_call 30; (with_reducible refine (sClosureOf_any _ _).mono ?_); rintro e w' ⟨rfl, hb⟩; (first | rw [E1.out]); obtain ⟨HB, hz0, hz, hc, hf⟩ := bst (w0 := wa) (by go_grown) hb; clear hb hz hc hf hz0) | (go_at_call 24; (with_reducible refine (iRelValid_any _ _).mono ?_); rintro e w' ⟨rfl, rfl⟩; rw [R1.out]))
        go_loopw [8] (fun i wr => ∃ k : Nat, k ≤ 13 ∧ i = .int .i64 k ∧ Hid (Below w.heap.size w wr)) (fun i _ => 13 - (intOf i).toNat)
        case atStart => exact ⟨0, by omega, rfl, hid (Hb.out.trans (Below.mono (by go_grown) Hb.out.size))⟩
        case round =>
          obtain ⟨i, hi, rfl, HBW⟩ := hrel
          obtain ⟨wi, rfl⟩ : ∃ wi : World, wi = wr := ⟨_, rfl⟩
          have HTi := hid (HT0.out.below HBW.out)
          by_cases i13 : i < 13
          · have hdi : decide ((i : Int) < 13) = true := by simp; omega
            have CL : Hid (cloI (RowKit.wrap64 ((2 : Int) ^ i)) = ((closN (2 ^ i) : Nat) : Int)) := hid (by rw [sh_wrap i13, cloI_on (pow_lt i13)])
            go_wp2_with (first | (go_at_call 29; (with_reducible refine (iClosureOf_any _ _ (HTi.out.below (by go_grown))).mono ?_); rintro e w' ⟨rfl, hb⟩; (first | rw [CL.out]); obtain ⟨HB, hz0, hz, hc, hf⟩ := bst (w0 := wi) (by go_grown) hb; clear hb hz hc hf hz0))
            have HBi := hid (show Below w.heap.size w _ from HBW.out.trans (Below.mono HB HBW.out.size))
            go_loopw [10] (fun j wr => ∃ k : Nat, k ≤ 13 ∧ j = .int .i64 k ∧ Hid (Below w.heap.size w wr)) (fun j _ => 13 - (intOf j).toNat)
            case atStart => exact ⟨0, by omega, rfl, HBi⟩
            case round =>
              obtain ⟨j, hj, rfl, HBX⟩ := hrel
              obtain ⟨wj, rfl⟩ : ∃ wj : World, wj = wr := ⟨_, rfl⟩
              have HTl := hid (HT0.out.below HBX.out)
              by_cases j13 : j < 13
              · have hdj : decide ((j : Int) < 13) = true := by simp; omega
                have b1 := bit_at (closN (2 ^ i)) j (closN_lt _)
                rw [clos_one i13 j13] at b1
                have hx1 := ltr_ex j13
                have hx2 := ltr_ex i13
                have DL1 := hid (dim_ltr j13)
                have DL2 := hid (dim_ltr i13)
                have hjj : (0 : Int) ≤ (j : Int) := Int.natCast_nonneg _
                have hii : (0 : Int) ≤ (i : Int) := Int.natCast_nonneg _
                by_cases e : j = i
                · have ne : ((j : Int) != (i : Int)) = false := by rw [e]; simp
                  generalize closN (2 ^ i) = kc at *
                  go_wp2
                  go_quiet (fail)
                  go_wp2
                  go_roundw
                  case rel => exact ⟨j + 1, by omega, by go_num, hid (by exact below_drewN' HBX.out _)⟩
                  case measure => simp [intOf]; omega
                · have ne : ((j : Int) != (i : Int)) = true := by rw [bne_iff_ne]; omega
                  cases q : nearB i j
                  · rw [q] at b1
                    generalize closN (2 ^ i) = kc at *
                    go_wp2
                    go_quiet (fail)
                    go_wp2
                    go_roundw
                    case rel => exact ⟨j + 1, by omega, by go_num, hid (by exact below_drewN' HBX.out _)⟩
                    case measure => simp [intOf]; omega
                  · rw [q] at b1
                    have hdim := near_dim i13 j13 e q
                    have hge : decide (dimN i ≤ dimN j) = false := by simp; omega
                    have b1w : (bits .and .i64 (((closN (2 ^ i) : Nat) : Int) / 2 ^ min (IntKind.u64.wrap (j : Int)).toNat 64) 1 == 1) = true := by rw [show min (IntKind.u64.wrap (j : Int)).toNat 64 = j by rw [IntKind.wrap_u64]; omega]; exact b1
                    have sl1 := ltr_at j13
                    have sl2 := ltr_at i13
                    have sw1 : IntKind.i64.wrap ((j : Int) + 1) = (j : Int) + 1 := IntWalk.i64_in _ (by omega)
                    have sw2 : IntKind.i64.wrap ((i : Int) + 1) = (i : Int) + 1 := IntWalk.i64_in _ (by omega)
                    have n1 : (0 : Int) ≤ (j : Int) + 1 := by omega
                    have n2 : (0 : Int) ≤ (i : Int) + 1 := by omega
                    have t1 : ((j : Int) + 1).toNat = j + 1 := by omega
                    have t2 : ((i : Int) + 1).toNat = i + 1 := by omega
                    have uu1 : (j : Int) + 1 ≤ 13 := by omega
                    have uu2 : (i : Int) + 1 ≤ 13 := by omega
                    have uu3 : (j : Int) ≤ (j : Int) + 1 := by omega
                    have uu4 : (i : Int) ≤ (i : Int) + 1 := by omega
                    generalize closN (2 ^ i) = kc at *
                    generalize ltr j = lj at *
                    generalize ltr i = li at *
                    generalize dimN j = dj at *
                    generalize dimN i = di at *
                    go_wp2
                    go_region_held3 (fun _ => True) (trivial) (first | (go_at_call 26; (with_reducible refine (iDimensionOf_any _ _ (HTl.out.below (by go_grown))).mono ?_); rintro e w' ⟨rfl, hb⟩; (first | rw [DL1.out] | rw [DL2.out]); obtain ⟨HB9, hz0, hz, hc, hf⟩ := bst (w0 := wj) (by go_grown) hb; clear hb hz hc hf hz0) | fail)
                    all_goals
                      go_wp2
                      go_roundw
                      case rel => exact ⟨j + 1, by omega, by go_num, hid (HBX.out.trans (Below.mono (show Below wj.heap.size wj _ from by go_grown) HBX.out.size))⟩
                      case measure => simp [intOf]; omega
              · obtain rfl : j = 13 := by omega
                have hdj : decide (((13 : Nat) : Int) < 13) = false := by simp
                go_wp2
                go_roundw
                case rel => exact ⟨i + 1, by omega, by go_num, HBX⟩
                case measure => simp [intOf]; omega
          · obtain rfl : i = 13 := by omega
            have hdi : decide (((13 : Nat) : Int) < 13) = false := by simp
            go_wp2_with fail
            refine (DrawClosureOf_any _ _ _ _ _ (W0.out.below HBW.out)).mono ?_
            rintro e wb ⟨u, _, rfl, hb⟩
            have HT2 := hid (HTi.out.below hb)
            have Hb2 := hid (HBW.out.trans (hb.mono HBW.out.size))
            clear hb HT Hb HTi HBW
            rcases rv_cases u with hu | ⟨x, hx, rfl⟩
            · have EU := hid (cloI_off hu)
              clear hu HOR
              go_wp2_with (first | (go_at_call 29; (with_reducible refine (iClosureOf_any _ _ (HT2.out.below (by go_grown))).mono ?_); rintro e w' ⟨rfl, hb⟩; (first | rw [EU.out] | rw [E2.out] | rw [E6.out] | rw [E7.out]); obtain ⟨HB, hz0, hz, hc, hf⟩ := bst (w0 := wb) (by go_grown) hb; clear hb hz hc hf hz0) | (go_at_call 19; (with_reducible refine (iTurnRel_any _ _ (HT2.out.below (by go_grown))).mono ?_); rintro e w' ⟨rfl, hb⟩; (first | rw [T1.out] | rw [T2.out]); obtain ⟨HB, hz0, hz, hc, hf⟩ := bst (w0 := wb) (by go_grown) hb; clear hb hz hc hf hz0) | (go_at_call 20; (with_reducible refine (iMirrorRel_any _ _ (HT2.out.below (by go_grown))).mono ?_); rintro e w' ⟨rfl, hb⟩; (first | rw [M1.out] | rw [M2.out]); obtain ⟨HB, hz0, hz, hc, hf⟩ := bst (w0 := wb) (by go_grown) hb; clear hb hz hc hf hz0) | (go_at_call 14; (with_reducible refine (iConvexHull_any _ _ (HT2.out.below (by go_grown))).mono ?_); rintro e w' ⟨rfl, hb⟩; (first | rw [H1.out] | rw [H2.out]); obtain ⟨HB, hz0, hz, hc, hf⟩ := bst (w0 := wb) (by go_grown) hb; clear hb hz hc hf hz0))
              go_ret
              exact ⟨rfl, Hb2.out.trans (Below.mono (by go_grown) Hb2.out.size)⟩
            · have EU := hid (cloI_on hx)
              have EO := hid (HOR.out x hx)
              have p2 : decide (((closN x : Nat) : Int) < 0) = false := by simp
              clear HOR
              generalize closN x = s at *
              go_wp2_with (first | (go_at_call 29; (with_reducible refine (iClosureOf_any _ _ (HT2.out.below (by go_grown))).mono ?_); rintro e w' ⟨rfl, hb⟩; (first | rw [EU.out] | rw [EO.out] | rw [E2.out] | rw [E6.out] | rw [E7.out]); obtain ⟨HB, hz0, hz, hc, hf⟩ := bst (w0 := wb) (by go_grown) hb; clear hb hz hc hf hz0) | (go_at_call 19; (with_reducible refine (iTurnRel_any _ _ (HT2.out.below (by go_grown))).mono ?_); rintro e w' ⟨rfl, hb⟩; (first | rw [T1.out] | rw [T2.out]); obtain ⟨HB, hz0, hz, hc, hf⟩ := bst (w0 := wb) (by go_grown) hb; clear hb hz hc hf hz0) | (go_at_call 20; (with_reducible refine (iMirrorRel_any _ _ (HT2.out.below (by go_grown))).mono ?_); rintro e w' ⟨rfl, hb⟩; (first | rw [M1.out] | rw [M2.out]); obtain ⟨HB, hz0, hz, hc, hf⟩ := bst (w0 := wb) (by go_grown) hb; clear hb hz hc hf hz0) | (go_at_call 14; (with_reducible refine (iConvexHull_any _ _ (HT2.out.below (by go_grown))).mono ?_); rintro e w' ⟨rfl, hb⟩; (first | rw [H1.out] | rw [H2.out]); obtain ⟨HB, hz0, hz, hc, hf⟩ := bst (w0 := wb) (by go_grown) hb; clear hb hz hc hf hz0))
              go_ret
              exact ⟨rfl, Hb2.out.trans (Below.mono (by go_grown) Hb2.out.size)⟩
    · have hd1 : decide ((1048576 : Int) < (len1 : Int)) = true := by simp; omega
      have HS := AllLt.start w; go_enter Tryd.func5, Tryd.ntmps5
      go_wp2
      go_ret
      exact ⟨rfl, Below.refl _ _⟩
  · have hd : decide ((1048576 : Int) < (len0 : Int)) = true := by simp; omega
    have HS := AllLt.start w; go_enter Tryd.func5, Tryd.ntmps5
    go_wp2
    go_ret
    exact ⟨rfl, Below.refl _ _⟩
end Go.Proofs.YtnhpjjbblegnaabDoor.C
