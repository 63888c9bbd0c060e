/- In how many ways one basic relation can be chosen for each pair: the exact law. -/
import Derived.Test.YtdamnhigdaklcaaDoorNetY
namespace Go.Proofs.YtdamnhigdaklcaaDoor.C
open Go.RowKit
set_option linter.unusedVariables false
set_option linter.unusedSimpArgs false
theorem rcount_any (n : Nat) (hn : n < 8192) (w : World) :
    Calls Tryd.prog 73 #[.int .i64 n] w fun e w' => e = .returned (.int .i64 (onesN 13 n : Nat)) ∧ w = w' := by
  have hu : IntKind.u64.wrap (n : Int) = (n : Int) := by rw [IntKind.wrap_u64]; omega
  have HC : Hid (∀ w : World, Calls Tryd.prog 97 #[.int .u64 n] w fun e w' => e = .returned (.int .i64 (onesN 13 n : Nat)) ∧ w = w') := hid fun w => by
    have HS := AllLt.start w; go_enter Tryd.func97, Tryd.ntmps97
    go_wp2_with (first | (go_at_call 116; (with_reducible refine (ones64_any n hn _).mono ?_); rintro e w' ⟨rfl, rfl⟩))
    go_ret
    exact ⟨rfl, rfl⟩
  have HS := AllLt.start w; go_enter Tryd.func73, Tryd.ntmps73
  go_wp2_with (first | (go_at_call 97; (with_reducible refine (HC.out _).mono ?_); rintro e w' ⟨rfl, rfl⟩))
  go_ret
  exact ⟨rfl, rfl⟩
theorem prd_lt' {R : Nat → Nat → Nat} (hR : ∀ a b, R a b < 8192) {l : List (Nat × Nat)} (h : l.length ≤ 15) : prdL R l < 100000000000000000 := by have := prdL_lt hR h; omega
noncomputable def ccI (z : Int) (s : ByteArray) : Int := if NV z s then (prdL (mx z.toNat s) (edL z.toNat) : Nat) else -1
theorem ccI_no {z : Int} {s : ByteArray} (h : NV z s = false) : ccI z s = -1 := by simp [ccI, h]
theorem ccI_yes {n : Nat} {R : Nat → Nat → Nat} (h : OkR n R) : ccI n (netS n R) = (prdL R (edL n) : Nat) := by simp [ccI, nv_net h, mx_net h]
set_option maxHeartbeats 2000000 in
theorem iCountChoices_any (z : Int) (s : ByteArray) (w : World) (hT : TB w) :
    Calls Tryd.prog 36 #[.agg #[.int .i64 z, .string s]] w fun e w' => e = .returned (.int .i64 (ccI z s)) ∧ Below w.heap.size w w' := by
  have HT := hid (hT.below ((Below.refl w.heap.size w).alloc (Nat.le_refl _) (.cells #[.int .i64 z, .string s] 26)))
  clear hT
  rcases nv_cases z s with h | ⟨n, R, hR, rfl, rfl⟩
  · have HNV := hid h
    clear h
    have HS := AllLt.start w; go_enter Tryd.func36, Tryd.ntmps36
    go_wp2_with fail
    (with_reducible refine (networkOf_no z s HNV.out _ HT.out).mono ?_)
    rintro e w1 ⟨rfl, hb⟩
    go_wp2_with (first | refine al_net rfl rfl ?_ | refine st_net rfl _ _ rfl rfl rfl (NB.made w1 0 fun _ _ => 0) ?_)
    go_ret
    exact ⟨ret_int (ccI_no HNV.out).symm, below_setRow ((((Below.refl _ _).alloc (Nat.le_refl _) _).trans (hb.mono (by simp))).alloc (by have := hb.size; simp at this; omega) _) (by have := hb.size; simp at this; omega) _⟩
  · have HN := hid (networkOf_yes n R hR)
    have HCC := hid (ccI_yes hR)
    have h6 := hR.le
    have HLT := hid hR.lt
    have HS := AllLt.start w; go_enter Tryd.func36, Tryd.ntmps36
    go_wp2_with fail
    (with_reducible refine (HN.out _ HT.out).mono ?_)
    rintro e w1 ⟨rfl, hb⟩
    have HB0 := hid (below_setRow ((((Below.refl w.heap.size w).alloc (Nat.le_refl _) (.cells #[.int .i64 (n : Int), .string (netS n R)] 26)).trans (hb.mono (by simp))).alloc (by have := hb.size; simp at this; omega) (.cells (netV 0 fun _ _ => 0) 64)) (show w.heap.size ≤ w1.heap.size by have := hb.size; simp at this; omega) (netV n R))
    have HN2 := hid ((NB.made w1 0 fun _ _ => 0).row n R)
    clear hb hR
    go_upto_region 5 with (first | refine al_net rfl rfl ?_ | refine st_net rfl _ _ rfl rfl rfl (NB.made w1 0 fun _ _ => 0) ?_)
    generalize (w1.alloc (.cells (netV 0 fun _ _ => 0) 64)).setRow w1.heap.size (netV n R) = w2 at *
    go_wp2_with (refine ld_net rfl _ rfl rfl HN2.out ?_)
    (with_reducible refine (edges_any n h6 R _).mono ?_)
    rintro e w3 ⟨⟨v, rfl, hown⟩, hb⟩
    obtain ⟨a, cap, rfl, hE⟩ := Es.of_own hown
    have HE := hid hE
    have HB3 := hid (HB0.out.trans (hb.mono HB0.out.size))
    have hl15 := edL_len h6
    clear hown hE hb
    go_wp2_with fail
    go_loopw [5, 18] (fun p v wr => ∃ j : Nat, j ≤ (edL n).length ∧ v = .int .i64 j ∧ p = .int .i64 ((prdL R ((edL n).take j) : Nat) : Int) ∧ Hid (Below w3.heap.size w3 wr)) (fun _ v _ => (edL n).length - (intOf v).toNat)
    case atStart => exact ⟨0, by omega, rfl, rfl, hid (Below.refl _ _)⟩
    case round =>
      obtain ⟨j, hj, rfl, rfl, HX⟩ := hrel
      clear HS
      by_cases hjl : j < (edL n).length
      · have hdj : decide ((j : Int) < ((edL n).length : Int)) = true := by simp; omega
        have hdk : decide (j < (edL n).length) = true := by simp; omega
        obtain ⟨g, rfl, hg, c0, c1, c2⟩ := HE.out j hjl
        have HTK := hid (show prdL R ((edL n).take (j + 1)) = prdL R ((edL n).take j) * onesN 13 (R ((edL n).getD j (0, 0)).1 ((edL n).getD j (0, 0)).2) by rw [takeP _ _ hjl, prdL_snoc])
        have hlt := prd_lt' HLT.out (l := (edL n).take (j + 1)) (by rw [List.length_take]; omega)
        have hr8 := HLT.out ((edL n).getD j (0, 0)).1 ((edL n).getD j (0, 0)).2
        have hlt0 := prd_lt' HLT.out (l := (edL n).take j) (by rw [List.length_take]; omega)
        have ho13 := ones_le hr8
        generalize R ((edL n).getD j (0, 0)).1 ((edL n).getD j (0, 0)).2 = r at *
        generalize hqq : prdL R ((edL n).take (j + 1)) = q at *
        have HQQ := hid hqq
        clear hqq
        generalize prdL R ((edL n).take j) = p at *
        have hpq : (p : Int) * ((onesN 13 r : Nat) : Int) = (q : Int) := by rw [HTK.out]; push_cast; rfl
        have HCN := hid (rcount_any r hr8)
        have d0 : wr.cell? ⟨g, j * 3, none⟩ = _ := (HX.out.cell (p := ⟨g, j * 3, none⟩) hg).trans c0
        have d1 : wr.cell? ⟨g, j * 3 + 1, none⟩ = _ := (HX.out.cell (p := ⟨g, j * 3 + 1, none⟩) hg).trans c1
        have d2 : wr.cell? ⟨g, j * 3 + 2, none⟩ = _ := (HX.out.cell (p := ⟨g, j * 3 + 2, none⟩) hg).trans c2
        clear c0 c1 c2 HTK
        generalize onesN 13 r = o at *
        go_wp2_with (first | (go_at_call 73; (with_reducible refine (HCN.out _).mono ?_); rintro e w' ⟨rfl, rfl⟩))
        go_roundw
        case rel => exact ⟨j + 1, by omega, by go_num, by rw [HQQ.out], hid (HX.out.alloc HX.out.size _)⟩
        case measure => simp [intOf]; omega
      · obtain rfl : j = (edL n).length := by omega
        have hdj : decide (((edL n).length : Int) < ((edL n).length : Int)) = false := by simp
        have HR := hid (show prdL R ((edL n).take (edL n).length) = prdL R (edL n) by rw [List.take_length])
        go_wp2
        go_ret
        exact ⟨ret_int (by rw [HCC.out, ← HR.out]), HB3.out.trans (HX.out.mono HB3.out.size)⟩
set_option maxHeartbeats 2000000 in
theorem sCountChoices_any (z : Int) (s : ByteArray) (w : World) :
    Calls Tryd.prog 35 #[.agg #[.int .i64 z, .string s]] w fun e w' => e = .returned (.int .i64 (ccI z s)) ∧ Below w.heap.size w w' := by
  rcases nv_cases z s with h | ⟨n, R, hR, rfl, rfl⟩
  · have HNV := hid h
    clear h
    have HS := AllLt.start w; have hn2 := lt2; have hn3 := lt3; have hn4 := lt4; go_enter Tryd.func35, Tryd.ntmps35
    go_wp2_with (first | (go_at_call 15; (with_reducible refine (sNetValid_any z s _).mono ?_); rintro e w' ⟨rfl, hb⟩; obtain ⟨HB, hz0, hz, hc, hf⟩ := bst (w0 := w) (by go_grown) hb; clear hb; (try simp at hz); (first | ((refine HS.g5 (m := w'.heap.size) ?_ ?_); (focus omega); intro HS) | ((refine HS.g4 (m := w'.heap.size) ?_ ?_); (focus omega); intro HS) | ((refine HS.g3 (m := w'.heap.size) ?_ ?_); (focus omega); intro HS) | ((refine HS.g2 (m := w'.heap.size) ?_ ?_); (focus omega); intro HS) | ((refine HS.g1 (m := w'.heap.size) ?_ ?_); (focus omega); intro HS) | ((refine HS.g0 (m := w'.heap.size) ?_ ?_); (focus omega); intro HS)); have HU := HS; simp only [AllLt] at HU; rw [HNV.out]))
    go_ret
    exact ⟨ret_int (ccI_no HNV.out).symm, by (repeat' (first | (with_reducible exact Below.refl _ _) | (with_reducible refine Below.setCell ?_ ?_ _) | (with_reducible refine below_drewN' ?_ _) | (with_reducible refine below_drew' ?_) | (with_reducible refine Below.alloc ?_ ?_ _) | (with_reducible assumption) | go_size))⟩
  · have HNV := hid (nv_net hR)
    have HCC := hid (ccI_yes hR)
    have h6 := hR.le
    have HOK := hid hR
    have HI0 := hid (SI.made w (n : Int) (netS n R) 26)
    clear hR
    generalize hss : netS n R = s at *
    have HSS := hid hss
    clear hss
    have HS := AllLt.start w; go_enter Tryd.func35, Tryd.ntmps35
    go_wp2_with (first | (go_at_call 15; (with_reducible refine (sNetValid_any n s _).mono ?_); rintro e w1 ⟨rfl, hb⟩; rw [HNV.out]; have HI1 := hid (HI0.out.below hb); clear hb HI0))
    go_loopw [3, 4] (fun p v wr => ∃ i : Nat, i ≤ n ∧ v = .int .i64 i ∧ p = .int .i64 ((prdL R (edF n i) : Nat) : Int) ∧ Hid (SI w wr n s)) (fun _ v _ => n - (intOf v).toNat)
    case atStart => exact ⟨0, by omega, rfl, rfl, HI1⟩
    case round =>
      obtain ⟨i, hi, rfl, rfl, HI⟩ := hrel
      clear HS HI1
      have q0 := HI.out.a0
      by_cases hin : i < n
      · have hdi : decide ((i : Int) < (n : Int)) = true := by simp; omega
        go_wp2
        clear q0
        go_loopw [3, 5] (fun p v wr => ∃ m : Nat, i + 1 ≤ m ∧ m ≤ n ∧ v = .int .i64 m ∧ p = .int .i64 ((prdL R (edF n i ++ edI i (m - i - 1)) : Nat) : Int) ∧ Hid (SI w wr n s)) (fun _ v _ => n - (intOf v).toNat)
        case atStart => exact ⟨i + 1, by omega, by omega, by go_num, by rw [show i + 1 - i - 1 = 0 by omega]; simp [edI], HI⟩
        case round =>
          obtain ⟨m, hm, hmn, rfl, rfl, HI2⟩ := hrel
          have q0 := HI2.out.a0
          have q1 := HI2.out.a1
          by_cases hkn : m < n
          · have hdk : decide ((m : Int) < (n : Int)) = true := by simp; omega
            have hr8 := HOK.out.lt i m
            have hlen : (edF n i ++ edI i (m - i - 1)).length ≤ 15 := by
              have h1 := edF_len h6 (show i + 1 ≤ n by omega)
              have h2 : (edF n (i + 1)).length = (edF n i).length + (n - 1 - i) := by rw [edF, List.length_append, edI_len]
              rw [List.length_append, edI_len]; omega
            have hlen2 : (edF n i ++ edI i (m + 1 - i - 1)).length ≤ 15 := by
              have h1 := edF_len h6 (show i + 1 ≤ n by omega)
              have h2 : (edF n (i + 1)).length = (edF n i).length + (n - 1 - i) := by rw [edF, List.length_append, edI_len]
              rw [List.length_append, edI_len]; omega
            have HTK := hid (show prdL R (edF n i ++ edI i (m + 1 - i - 1)) = prdL R (edF n i ++ edI i (m - i - 1)) * onesN 13 (R i m) by
              rw [show m + 1 - i - 1 = (m - i - 1) + 1 by omega, edI_succ, show i + 1 + (m - i - 1) = m by omega, ← List.append_assoc, prdL_snoc])
            have hlt := prd_lt' HOK.out.lt hlen2
            have hlt0 := prd_lt' HOK.out.lt hlen
            have ho13 := ones_le hr8
            have HRI := hid (show rinI n s i m = (R i m : Nat) by rw [← HSS.out]; exact rinI_in HOK.out (by omega) hkn)
            generalize R i m = r at *
            generalize hqq : prdL R (edF n i ++ edI i (m + 1 - i - 1)) = q at *
            have HQQ := hid hqq
            clear hqq
            generalize prdL R (edF n i ++ edI i (m - i - 1)) = p at *
            have hpq : (p : Int) * ((onesN 13 r : Nat) : Int) = (q : Int) := by rw [HTK.out]; push_cast; rfl
            have HCN := hid (l1Ones_any r hr8)
            clear HTK hlen hlen2
            generalize onesN 13 r = o at *
            go_wp2_with (first | (go_at_call 18; (with_reducible refine (sRelIn_any n s i m _).mono ?_); rintro e w4 ⟨rfl, hb⟩; rw [HRI.out]; have HI4 := hid (HI2.out.below hb); clear hb) | (go_at_call 71; (with_reducible refine (HCN.out _).mono ?_); rintro e w' ⟨rfl, rfl⟩))
            go_roundw
            case rel => exact ⟨m + 1, by omega, by omega, by go_num, by rw [HQQ.out], HI4⟩
            case measure => simp [intOf]; omega
          · obtain rfl : m = n := by omega
            have hdk : decide ((m : Int) < (m : Int)) = false := by simp
            have HQ := hid (show prdL R (edF m i ++ edI i (m - i - 1)) = prdL R (edF m (i + 1)) by
              show _ = prdL R (edF m i ++ edI i (m - 1 - i))
              rw [show m - 1 - i = m - i - 1 by omega])
            go_wp2
            go_roundw
            case rel => exact ⟨i + 1, by omega, by go_num, by rw [HQ.out], HI2⟩
            case measure => simp [intOf]; omega
      · obtain rfl : i = n := by omega
        have hdi : decide ((i : Int) < (i : Int)) = false := by simp
        go_wp2
        go_ret
        exact ⟨ret_int HCC.out.symm, HI.out.bel⟩
set_option maxHeartbeats 1000000 in
theorem walk_FnExactCountChoices (a00 : Int) (a01 : ByteArray) (w : World) (w00 : (Lit.int .i64 a00).wf = true) (w01 : a01.size ≤ maxLen) (hB : TB w) :
    Calls Tryd.prog 11 #[.agg #[.int .i64 a00, .string a01]] w fun e w' => e = .returned (.bool true) ∧ Below w.heap.size w w' := by
  have HT := hid hB
  clear hB w00
  by_cases hs : a01.size ≤ 1048576
  · have h0 : decide ((1048576 : Int) - (a01.size : Int) < 0) = false := by simp; omega
    have h1 : decide ((1048576 : Int) < (a01.size : Int)) = false := by simp; omega
    clear w01
    have HS := AllLt.start w; have hn2 := lt2; have hn3 := lt3; have hn4 := lt4; go_enter Tryd.func11, Tryd.ntmps11
    go_wp2_with (first | (go_at_call 14; (with_reducible refine (szNet_on a00 a01 hs _).mono ?_); rintro e w' ⟨rfl, hb⟩; obtain ⟨HB, hz0, hz, hc, hf⟩ := bst (w0 := w) (by go_grown) hb; clear hb; (try simp at hz); (first | ((refine HS.g5 (m := w'.heap.size) ?_ ?_); (focus omega); intro HS) | ((refine HS.g4 (m := w'.heap.size) ?_ ?_); (focus omega); intro HS) | ((refine HS.g3 (m := w'.heap.size) ?_ ?_); (focus omega); intro HS) | ((refine HS.g2 (m := w'.heap.size) ?_ ?_); (focus omega); intro HS) | ((refine HS.g1 (m := w'.heap.size) ?_ ?_); (focus omega); intro HS) | ((refine HS.g0 (m := w'.heap.size) ?_ ?_); (focus omega); intro HS)); have HU := HS; simp only [AllLt] at HU) | (go_at_call 16; (with_reducible refine (toNet_any _ _ _).mono ?_); rintro e w' ⟨rfl, hb⟩; obtain ⟨HB, hz0, hz, hc, hf⟩ := bst (w0 := w) (by go_grown) hb; clear hb; (try simp at hz); (first | ((refine HS.g5 (m := w'.heap.size) ?_ ?_); (focus omega); intro HS) | ((refine HS.g4 (m := w'.heap.size) ?_ ?_); (focus omega); intro HS) | ((refine HS.g3 (m := w'.heap.size) ?_ ?_); (focus omega); intro HS) | ((refine HS.g2 (m := w'.heap.size) ?_ ?_); (focus omega); intro HS) | ((refine HS.g1 (m := w'.heap.size) ?_ ?_); (focus omega); intro HS) | ((refine HS.g0 (m := w'.heap.size) ?_ ?_); (focus omega); intro HS)); have HU := HS; simp only [AllLt] at HU) | (go_at_call 35; (with_reducible refine (sCountChoices_any _ _ _).mono ?_); rintro e w' ⟨rfl, hb⟩; obtain ⟨HB, hz0, hz, hc, hf⟩ := bst (w0 := w) (by go_grown) hb; clear hb; (try simp at hz); (first | ((refine HS.g5 (m := w'.heap.size) ?_ ?_); (focus omega); intro HS) | ((refine HS.g4 (m := w'.heap.size) ?_ ?_); (focus omega); intro HS) | ((refine HS.g3 (m := w'.heap.size) ?_ ?_); (focus omega); intro HS) | ((refine HS.g2 (m := w'.heap.size) ?_ ?_); (focus omega); intro HS) | ((refine HS.g1 (m := w'.heap.size) ?_ ?_); (focus omega); intro HS) | ((refine HS.g0 (m := w'.heap.size) ?_ ?_); (focus omega); intro HS)); have HU := HS; simp only [AllLt] at HU) | (go_at_call 36; (with_reducible refine (iCountChoices_any _ _ _ (HT.out.below (by go_grown))).mono ?_); rintro e w' ⟨rfl, hb⟩; obtain ⟨HB, hz0, hz, hc, hf⟩ := bst (w0 := w) (by go_grown) hb; clear hb; (try simp at hz); (first | ((refine HS.g5 (m := w'.heap.size) ?_ ?_); (focus omega); intro HS) | ((refine HS.g4 (m := w'.heap.size) ?_ ?_); (focus omega); intro HS) | ((refine HS.g3 (m := w'.heap.size) ?_ ?_); (focus omega); intro HS) | ((refine HS.g2 (m := w'.heap.size) ?_ ?_); (focus omega); intro HS) | ((refine HS.g1 (m := w'.heap.size) ?_ ?_); (focus omega); intro HS) | ((refine HS.g0 (m := w'.heap.size) ?_ ?_); (focus omega); intro HS)); have HU := HS; simp only [AllLt] at HU))
    go_ret
    exact ⟨rfl, by (repeat' (first | (with_reducible exact Below.refl _ _) | (with_reducible refine Below.setCell ?_ ?_ _) | (with_reducible refine below_drewN' ?_ _) | (with_reducible refine below_drew' ?_) | (with_reducible refine Below.alloc ?_ ?_ _) | (with_reducible assumption) | go_size))⟩
  · have HS := AllLt.start w; have hn2 := lt2; have hn3 := lt3; have hn4 := lt4; go_enter Tryd.func11, Tryd.ntmps11
    go_wp2_with (first | (go_at_call 14; (with_reducible refine (szNet_off a00 a01 hs w01 _).mono ?_); rintro e w' ⟨rfl, hb⟩; obtain ⟨HB, hz0, hz, hc, hf⟩ := bst (w0 := w) (by go_grown) hb; clear hb; (try simp at hz); (first | ((refine HS.g5 (m := w'.heap.size) ?_ ?_); (focus omega); intro HS) | ((refine HS.g4 (m := w'.heap.size) ?_ ?_); (focus omega); intro HS) | ((refine HS.g3 (m := w'.heap.size) ?_ ?_); (focus omega); intro HS) | ((refine HS.g2 (m := w'.heap.size) ?_ ?_); (focus omega); intro HS) | ((refine HS.g1 (m := w'.heap.size) ?_ ?_); (focus omega); intro HS) | ((refine HS.g0 (m := w'.heap.size) ?_ ?_); (focus omega); intro HS)); have HU := HS; simp only [AllLt] at HU))
    go_ret
    exact ⟨rfl, by (repeat' (first | (with_reducible exact Below.refl _ _) | (with_reducible refine Below.setCell ?_ ?_ _) | (with_reducible refine below_drewN' ?_ _) | (with_reducible refine below_drew' ?_) | (with_reducible refine Below.alloc ?_ ?_ _) | (with_reducible assumption) | go_size))⟩
end Go.Proofs.YtdamnhigdaklcaaDoor.C
