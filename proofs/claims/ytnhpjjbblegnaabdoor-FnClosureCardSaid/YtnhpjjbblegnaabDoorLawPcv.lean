/- The law of nearly convex relations. -/
import Derived.Test.YtnhpjjbblegnaabDoorLawCvx
import Derived.Test.YtnhpjjbblegnaabDoorLatR
namespace Go.Proofs.YtnhpjjbblegnaabDoor.C
open Go.RowKit
set_option linter.unusedVariables false
set_option linter.unusedSimpArgs false
theorem pcB_iff {n : Nat} (h : n < 8192) : pcB n = true ↔ PC n := by
  rw [pcB_on h, decide_eq_true_iff, PC, ← cv_iff]
  omega
theorem pcB_t {n : Nat} (h : n < 8192) : pcB n = pcT n := by rw [Bool.eq_iff_iff, pcB_iff h, pc_t]
theorem pcB_congr {n m : Nat} (h : n < 8192) (h' : m < 8192) (e : PC n ↔ PC m) : pcB n = pcB m := by rw [Bool.eq_iff_iff, pcB_iff h, pcB_iff h', e]
theorem ltr_at {k : Nat} (h : k < 13) (w : World) : (Instr.slice 9 (.string ⟨#[98, 109, 111, 115, 100, 102, 101, 70, 68, 83, 79, 77, 66]⟩) (some (.int .i64 k)) (some (.int .i64 ((k : Int) + 1))) none).run Tryd.prog w = .ok (.string (ltr k)) w := by
  rcases nat13 h with rfl | rfl | rfl | rfl | rfl | rfl | rfl | rfl | rfl | rfl | rfl | rfl | rfl <;> kernel_rfl
theorem dim_ltr {k : Nat} (h : k < 13) : dimI (lixI (ltr k)) = dimN k := by rw [lixI_hit (lix_ltr h), dimI_nat]
theorem ltr_ex {k : Nat} (h : k < 13) : ({ data := #[98, 109, 111, 115, 100, 102, 101, 70, 68, 83, 79, 77, 66] } : ByteArray).extract k (k + 1) = ltr k := by
  rcases nat13 h with rfl | rfl | rfl | rfl | rfl | rfl | rfl | rfl | rfl | rfl | rfl | rfl | rfl <;> decide +kernel
theorem bit_at (n k : Nat) (h : n < 8192) : (bits .and .i64 ((n : Int) / 2 ^ k) 1 == 1) = n.testBit k := by
  have h2 : n / 2 ^ k < 8192 := Nat.lt_of_le_of_lt (Nat.div_le_self _ _) h
  have e : ((n : Int) / 2 ^ k) = ((n / 2 ^ k : Nat) : Int) := by push_cast; rfl
  rw [e, show (1 : Int) = ((1 : Nat) : Int) from rfl, i64_and _ 1 h2 (by omega), Nat.and_one_is_mod, has_shr]
  cases n.testBit k <;> rfl
set_option maxHeartbeats 8000000 in
set_option maxRecDepth 100000 in
theorem walk_FnPreconvex (a0 : Option Addr) (len0 cap0 : Nat) (z0 : List Int) (a1 : Option Addr) (len1 cap1 : Nat) (z1 : List Int) (w : World) (w0 : IsRow .u8 w a0 len0 cap0 z0) (w1 : IsRow .u8 w a1 len1 cap1 z1) (hB : TB w) :
    Calls Tryd.prog 4 #[.slice a0 len0 cap0, .slice a1 len1 cap1] w fun e w' => e = .returned (.bool true) ∧ Below w.heap.size w w' := by
  have HT0 := hid hB
  clear hB
  by_cases hl : len0 ≤ 1048576
  · have hd : decide ((1048576 : Int) < (len0 : Int)) = false := by simp; omega
    by_cases hl1 : len1 ≤ 1048576
    · have hd1 : decide ((1048576 : Int) < (len1 : Int)) = false := by simp; omega
      have HS := AllLt.start w; go_enter Tryd.func4, Tryd.ntmps4
      go_wp2_with fail
      refine (DrawIsPreconvex_any _ _ _ _ _ w0).mono ?_
      rintro e wa ⟨r, _, rfl, hb⟩
      have HT := hid (HT0.out.below hb)
      have Hb := hid hb
      have W1 := hid (w1.below hb)
      clear w0 w1 hb HS
      rcases rv_cases r with h | ⟨n, hn, rfl⟩
      · have P1 := hid (pcB_off h)
        have R1 := hid h
        clear h W1
        go_wp2_with (first | (go_at_call 22; (with_reducible refine (iIsPreconvex_any _ _ (HT.out.below (by go_grown))).mono ?_); rintro e w' ⟨rfl, hb⟩; (first | rw [P1.out]); obtain ⟨HB, hz0, hz, hc, hf⟩ := bst (w0 := wa) (by go_grown) hb; clear hb hz hc hf hz0) | (go_at_call 23; (with_reducible refine (sIsPreconvex_any _ _).mono ?_); rintro e w' ⟨rfl, hb⟩; (first | rw [P1.out]); obtain ⟨HB, hz0, hz, hc, hf⟩ := bst (w0 := wa) (by go_grown) hb; clear hb hz hc hf hz0) | (go_at_call 24; (with_reducible refine (iRelValid_any _ _).mono ?_); rintro e w' ⟨rfl, rfl⟩; rw [R1.out]))
        go_ret
        exact ⟨rfl, Hb.out.trans (Below.mono (by go_grown) Hb.out.size)⟩
      · have R1 := hid (rv_nat n hn)
        have hlt := hull_lt n
        have hol := othN_lt n
        have ml : hull n &&& othN n < 8192 := Nat.lt_of_le_of_lt Nat.and_le_left hlt
        have E1 := hid (hulI_on hn)
        have O1 := hid (othI_n hn)
        have C1 := hid (cvB_on hn)
        have Q1 := hid (ptB_on hn)
        have T1 := hid (turI_n hn)
        have M1 := hid (mirI_n hn)
        have P2 := hid (pcB_congr (turN_lt n) hn (pc_tur hn))
        have P3 := hid (pcB_congr (mirN_lt n) hn (pc_mir hn))
        have HAND := hid (i64_and _ _ hlt hol)
        have HGAP := hid ((pcB_t hn).trans (gap_t hn))
        have HCV : Hid (decide (((hull n : Nat) : Int) = n) = true → pcB n = true) := hid fun h => (pcB_iff hn).2 (pc_cv (cv_iff.1 (by have := of_decide_eq_true h; omega)))
        have HPT : Hid (decide (((ptN n : Nat) : Int) = n) = true → pcB n = true) := hid fun h => (pcB_iff hn).2 (pt_pc hn (by have := of_decide_eq_true h; omega))
        have HPI := hid (fun h => (pcB_iff hn).1 h)
        generalize turN n = tn at *
        generalize mirN n = mn at *
        generalize decide (((ptN n : Nat) : Int) = n) = pb at *
        generalize decide (((hull n : Nat) : Int) = n) = cb at *
        generalize hull n &&& othN n = ms at *
        generalize hull n = h at *
        generalize othN n = o at *
        have ML := hid ml
        clear hlt hol ml
        cases b : pcB (n : Int)
        all_goals
          have P1 := hid b
          rw [b] at P2 P3 HGAP HCV HPT HPI
          clear b
          go_wp2_with (first | (go_at_call 22; (with_reducible refine (iIsPreconvex_any _ _ (HT.out.below (by go_grown))).mono ?_); rintro e w' ⟨rfl, hb⟩; (first | rw [P1.out]); obtain ⟨HB, hz0, hz, hc, hf⟩ := bst (w0 := wa) (by go_grown) hb; clear hb hz hc hf hz0) | (go_at_call 23; (with_reducible refine (sIsPreconvex_any _ _).mono ?_); rintro e w' ⟨rfl, hb⟩; (first | rw [P1.out]); obtain ⟨HB, hz0, hz, hc, hf⟩ := bst (w0 := wa) (by go_grown) hb; clear hb hz hc hf hz0) | (go_at_call 24; (with_reducible refine (iRelValid_any _ _).mono ?_); rintro e w' ⟨rfl, rfl⟩; rw [R1.out]))
          refine (DrawIsPreconvex_any _ _ _ _ _ (W1.out.below (by go_grown))).mono ?_
          rintro e wb ⟨u, _, rfl, hb⟩
          have HBb : Below wa.heap.size wa wb := (bst (w0 := wa) (by go_grown) hb).1
          have HT2 := hid (HT.out.below HBb)
          have Hb2 := hid (Hb.out.trans (HBb.mono Hb.out.size))
          clear hb HBb W1 HT Hb R1
          try clear HB
        · go_wp2_with (first | (go_at_call 22; (with_reducible refine (iIsPreconvex_any _ _ (HT2.out.below (by go_grown))).mono ?_); rintro e w' ⟨rfl, hb⟩; (first | rw [P1.out]); obtain ⟨HB, hz0, hz, hc, hf⟩ := bst (w0 := wb) (by go_grown) hb; clear hb hz hc hf hz0) | (go_at_call 14; (with_reducible refine (iConvexHull_any _ _ (HT2.out.below (by go_grown))).mono ?_); rintro e w' ⟨rfl, hb⟩; (first | rw [E1.out]); obtain ⟨HB, hz0, hz, hc, hf⟩ := bst (w0 := wb) (by go_grown) hb; clear hb hz hc hf hz0) | (go_at_call 25; (with_reducible refine (iOtherRel_any _ _).mono ?_); rintro e w' ⟨rfl, rfl⟩; rw [O1.out]) | (go_at_call 18; (with_reducible refine (iComposeRel_any _ _ _ (HT2.out.below (by go_grown))).mono ?_); rintro e w' ⟨rfl, hb⟩; (first | rw [D1.out]); obtain ⟨HB, hz0, hz, hc, hf⟩ := bst (w0 := wb) (by go_grown) hb; clear hb hz hc hf hz0))
          rw [HAND.out]
          go_loopw [10, 11, 12] (fun d g i wr => ∃ k : Nat, k ≤ 13 ∧ i = .int .i64 k ∧ d = .int .i64 (dimS n k) ∧ g = .int .i64 (dimS ms k) ∧ Hid (Below w.heap.size w wr)) (fun _ _ i _ => 13 - (intOf i).toNat)
          case atStart => exact ⟨0, by omega, rfl, rfl, rfl, hid (Hb2.out.trans (Below.mono (by go_grown) Hb2.out.size))⟩
          case round =>
            obtain ⟨k, hk, rfl, rfl, rfl, HBW⟩ := hrel
            obtain ⟨wi, rfl⟩ : ∃ wi : World, wi = wr := ⟨_, rfl⟩
            have HTl := hid (HT0.out.below HBW.out)
            by_cases k13 : k < 13
            · have hdk : decide ((k : Int) < 13) = true := by simp; omega
              have b1 := bit_at n k hn
              have b2 := bit_at ms k ML.out
              have hx := ltr_ex k13
              have DL := hid (dim_ltr k13)
              have HT1 := hid (fun h => dimS_hit (n := n) (k := k) h)
              have HT2' := hid (fun h => dimS_miss (n := n) (k := k) h)
              have HT3' := hid (fun h => dimS_hit (n := ms) (k := k) h)
              have HT4 := hid (fun h => dimS_miss (n := ms) (k := k) h)
              have hk0 : (0 : Int) ≤ (k : Int) := Int.natCast_nonneg _
              generalize ltr k = lk at *
              generalize dimN k = dk at *
              generalize dimS n k = d1 at *
              generalize dimS ms k = d2 at *
              cases q1 : n.testBit k
              all_goals
                rw [q1] at b1
                cases q2 : ms.testBit k
                all_goals
                  rw [q2] at b2
                  have Q1 := hid q1
                  have Q2 := hid q2
                  clear q1 q2
                  go_wp2_with (first | (go_at_call 26; (with_reducible refine (iDimensionOf_any _ _ (HTl.out.below (by go_grown))).mono ?_); rintro e w' ⟨rfl, hb⟩; rw [DL.out]; obtain ⟨HB9, hz0, hz, hc, hf⟩ := bst (w0 := wi) (by go_grown) hb; clear hb hz hc hf hz0))
                  go_roundw
                  case rel => exact ⟨k + 1, by omega, by go_num, ret_val (by first | rw [HT1.out Q1.out] | rw [HT2'.out Q1.out]), ret_val (by first | rw [HT3'.out Q2.out] | rw [HT4.out Q2.out]), hid (HBW.out.trans (Below.mono (by go_grown) HBW.out.size))⟩
                  case measure => simp [intOf]; omega
            · obtain rfl : k = 13 := by omega
              have hdk : decide (((13 : Nat) : Int) < 13) = false := by simp
              have hgap := HGAP.out
              generalize dimS n 13 = d1 at *
              generalize dimS ms 13 = d2 at *
              by_cases hz : ms = 0
              all_goals
                have hz2 : ((ms : Int) == 0) = decide (ms = 0) := by rw [Bool.eq_iff_iff]; simp <;> omega
                by_cases hg : d2 < d1
                all_goals
                  have hg2 : decide (d2 < d1) = decide (d2 < d1) := rfl
                  (first | rw [decide_eq_true hz] at hz2 hgap | rw [decide_eq_false hz] at hz2 hgap)
                  (first | rw [decide_eq_true hg] at hgap | rw [decide_eq_false hg] at hgap)
                  first
                  | (exfalso; exact Bool.noConfusion hgap)
                  | (have hg3 := hg
                     clear hgap hg2
                     cases cb
                     all_goals
                       cases pb
                       all_goals
                         first
                         | (exfalso; exact Bool.noConfusion (HCV.out rfl))
                         | (exfalso; exact Bool.noConfusion (HPT.out rfl))
                         | (go_wp2_with (first | (go_at_call 15; (with_reducible refine (iIsConvex_any _ _ (HTl.out.below (by go_grown))).mono ?_); rintro e w' ⟨rfl, hb⟩; (first | rw [C1.out]); obtain ⟨HB, hz0, hz, hc, hf⟩ := bst (w0 := wi) (by go_grown) hb; clear hb hz hc hf hz0) | (go_at_call 27; (with_reducible refine (iIsPointable_any _ _ (HTl.out.below (by go_grown))).mono ?_); rintro e w' ⟨rfl, hb⟩; (first | rw [Q1.out]); obtain ⟨HB, hz0, hz, hc, hf⟩ := bst (w0 := wi) (by go_grown) hb; clear hb hz hc hf hz0) | (go_at_call 19; (with_reducible refine (iTurnRel_any _ _ (HTl.out.below (by go_grown))).mono ?_); rintro e w' ⟨rfl, hb⟩; (first | rw [T1.out]); obtain ⟨HB, hz0, hz, hc, hf⟩ := bst (w0 := wi) (by go_grown) hb; clear hb hz hc hf hz0) | (go_at_call 20; (with_reducible refine (iMirrorRel_any _ _ (HTl.out.below (by go_grown))).mono ?_); rintro e w' ⟨rfl, hb⟩; (first | rw [M1.out]); obtain ⟨HB, hz0, hz, hc, hf⟩ := bst (w0 := wi) (by go_grown) hb; clear hb hz hc hf hz0) | (go_at_call 22; (with_reducible refine (iIsPreconvex_any _ _ (HTl.out.below (by go_grown))).mono ?_); rintro e w' ⟨rfl, hb⟩; (first | rw [P2.out] | rw [P3.out]); obtain ⟨HB, hz0, hz, hc, hf⟩ := bst (w0 := wi) (by go_grown) hb; clear hb hz hc hf hz0))
                            go_ret
                            exact ⟨rfl, HBW.out.trans (Below.mono (by go_grown) HBW.out.size)⟩))
        · rcases rv_cases u with hu | ⟨x, hx, rfl⟩
          · have PU := hid (pcB_off hu)
            clear hu
            go_wp2_with (first | (go_at_call 22; (with_reducible refine (iIsPreconvex_any _ _ (HT2.out.below (by go_grown))).mono ?_); rintro e w' ⟨rfl, hb⟩; (first | rw [PU.out]); obtain ⟨HB, hz0, hz, hc, hf⟩ := bst (w0 := wb) (by go_grown) hb; clear hb hz hc hf hz0) | (go_at_call 14; (with_reducible refine (iConvexHull_any _ _ (HT2.out.below (by go_grown))).mono ?_); rintro e w' ⟨rfl, hb⟩; (first | rw [E1.out]); obtain ⟨HB, hz0, hz, hc, hf⟩ := bst (w0 := wb) (by go_grown) hb; clear hb hz hc hf hz0) | (go_at_call 25; (with_reducible refine (iOtherRel_any _ _).mono ?_); rintro e w' ⟨rfl, rfl⟩; rw [O1.out]) | (go_at_call 18; (with_reducible refine (iComposeRel_any _ _ _ (HT2.out.below (by go_grown))).mono ?_); rintro e w' ⟨rfl, hb⟩; (first | rw [D1.out]); obtain ⟨HB, hz0, hz, hc, hf⟩ := bst (w0 := wb) (by go_grown) hb; clear hb hz hc hf hz0))
            rw [HAND.out]
            go_loopw [10, 11, 12] (fun d g i wr => ∃ k : Nat, k ≤ 13 ∧ i = .int .i64 k ∧ d = .int .i64 (dimS n k) ∧ g = .int .i64 (dimS ms k) ∧ Hid (Below w.heap.size w wr)) (fun _ _ i _ => 13 - (intOf i).toNat)
            case atStart => exact ⟨0, by omega, rfl, rfl, rfl, hid (Hb2.out.trans (Below.mono (by go_grown) Hb2.out.size))⟩
            case round =>
              obtain ⟨k, hk, rfl, rfl, rfl, HBW⟩ := hrel
              obtain ⟨wi, rfl⟩ : ∃ wi : World, wi = wr := ⟨_, rfl⟩
              have HTl := hid (HT0.out.below HBW.out)
              by_cases k13 : k < 13
              · have hdk : decide ((k : Int) < 13) = true := by simp; omega
                have b1 := bit_at n k hn
                have b2 := bit_at ms k ML.out
                have hx := ltr_ex k13
                have DL := hid (dim_ltr k13)
                have HT1 := hid (fun h => dimS_hit (n := n) (k := k) h)
                have HT2' := hid (fun h => dimS_miss (n := n) (k := k) h)
                have HT3' := hid (fun h => dimS_hit (n := ms) (k := k) h)
                have HT4 := hid (fun h => dimS_miss (n := ms) (k := k) h)
                have hk0 : (0 : Int) ≤ (k : Int) := Int.natCast_nonneg _
                generalize ltr k = lk at *
                generalize dimN k = dk at *
                generalize dimS n k = d1 at *
                generalize dimS ms k = d2 at *
                cases q1 : n.testBit k
                all_goals
                  rw [q1] at b1
                  cases q2 : ms.testBit k
                  all_goals
                    rw [q2] at b2
                    have Q1 := hid q1
                    have Q2 := hid q2
                    clear q1 q2
                    go_wp2_with (first | (go_at_call 26; (with_reducible refine (iDimensionOf_any _ _ (HTl.out.below (by go_grown))).mono ?_); rintro e w' ⟨rfl, hb⟩; rw [DL.out]; obtain ⟨HB9, hz0, hz, hc, hf⟩ := bst (w0 := wi) (by go_grown) hb; clear hb hz hc hf hz0))
                    go_roundw
                    case rel => exact ⟨k + 1, by omega, by go_num, ret_val (by first | rw [HT1.out Q1.out] | rw [HT2'.out Q1.out]), ret_val (by first | rw [HT3'.out Q2.out] | rw [HT4.out Q2.out]), hid (HBW.out.trans (Below.mono (by go_grown) HBW.out.size))⟩
                    case measure => simp [intOf]; omega
              · obtain rfl : k = 13 := by omega
                have hdk : decide (((13 : Nat) : Int) < 13) = false := by simp
                have hgap := HGAP.out
                generalize dimS n 13 = d1 at *
                generalize dimS ms 13 = d2 at *
                by_cases hz : ms = 0
                all_goals
                  have hz2 : ((ms : Int) == 0) = decide (ms = 0) := by rw [Bool.eq_iff_iff]; simp <;> omega
                  by_cases hg : d2 < d1
                  all_goals
                    have hg2 : decide (d2 < d1) = decide (d2 < d1) := rfl
                    (first | rw [decide_eq_true hz] at hz2 hgap | rw [decide_eq_false hz] at hz2 hgap)
                    (first | rw [decide_eq_true hg] at hgap | rw [decide_eq_false hg] at hgap)
                    first
                    | (exfalso; exact Bool.noConfusion hgap)
                    | (have hg3 := hg
                       clear hgap hg2
                       cases cb
                       all_goals
                         cases pb
                         all_goals
                           first
                           | (exfalso; exact Bool.noConfusion (HCV.out rfl))
                           | (exfalso; exact Bool.noConfusion (HPT.out rfl))
                           | (go_wp2_with (first | (go_at_call 15; (with_reducible refine (iIsConvex_any _ _ (HTl.out.below (by go_grown))).mono ?_); rintro e w' ⟨rfl, hb⟩; (first | rw [C1.out]); obtain ⟨HB, hz0, hz, hc, hf⟩ := bst (w0 := wi) (by go_grown) hb; clear hb hz hc hf hz0) | (go_at_call 27; (with_reducible refine (iIsPointable_any _ _ (HTl.out.below (by go_grown))).mono ?_); rintro e w' ⟨rfl, hb⟩; (first | rw [Q1.out]); obtain ⟨HB, hz0, hz, hc, hf⟩ := bst (w0 := wi) (by go_grown) hb; clear hb hz hc hf hz0) | (go_at_call 19; (with_reducible refine (iTurnRel_any _ _ (HTl.out.below (by go_grown))).mono ?_); rintro e w' ⟨rfl, hb⟩; (first | rw [T1.out]); obtain ⟨HB, hz0, hz, hc, hf⟩ := bst (w0 := wi) (by go_grown) hb; clear hb hz hc hf hz0) | (go_at_call 20; (with_reducible refine (iMirrorRel_any _ _ (HTl.out.below (by go_grown))).mono ?_); rintro e w' ⟨rfl, hb⟩; (first | rw [M1.out]); obtain ⟨HB, hz0, hz, hc, hf⟩ := bst (w0 := wi) (by go_grown) hb; clear hb hz hc hf hz0) | (go_at_call 22; (with_reducible refine (iIsPreconvex_any _ _ (HTl.out.below (by go_grown))).mono ?_); rintro e w' ⟨rfl, hb⟩; (first | rw [P2.out] | rw [P3.out]); obtain ⟨HB, hz0, hz, hc, hf⟩ := bst (w0 := wi) (by go_grown) hb; clear hb hz hc hf hz0))
                              go_ret
                              exact ⟨rfl, HBW.out.trans (Below.mono (by go_grown) HBW.out.size)⟩))
          · cases bu : pcB (x : Int)
            · have PU := hid bu
              clear bu
              go_wp2_with (first | (go_at_call 22; (with_reducible refine (iIsPreconvex_any _ _ (HT2.out.below (by go_grown))).mono ?_); rintro e w' ⟨rfl, hb⟩; (first | rw [PU.out]); obtain ⟨HB, hz0, hz, hc, hf⟩ := bst (w0 := wb) (by go_grown) hb; clear hb hz hc hf hz0) | (go_at_call 14; (with_reducible refine (iConvexHull_any _ _ (HT2.out.below (by go_grown))).mono ?_); rintro e w' ⟨rfl, hb⟩; (first | rw [E1.out]); obtain ⟨HB, hz0, hz, hc, hf⟩ := bst (w0 := wb) (by go_grown) hb; clear hb hz hc hf hz0) | (go_at_call 25; (with_reducible refine (iOtherRel_any _ _).mono ?_); rintro e w' ⟨rfl, rfl⟩; rw [O1.out]) | (go_at_call 18; (with_reducible refine (iComposeRel_any _ _ _ (HT2.out.below (by go_grown))).mono ?_); rintro e w' ⟨rfl, hb⟩; (first | rw [D1.out]); obtain ⟨HB, hz0, hz, hc, hf⟩ := bst (w0 := wb) (by go_grown) hb; clear hb hz hc hf hz0))
              rw [HAND.out]
              go_loopw [10, 11, 12] (fun d g i wr => ∃ k : Nat, k ≤ 13 ∧ i = .int .i64 k ∧ d = .int .i64 (dimS n k) ∧ g = .int .i64 (dimS ms k) ∧ Hid (Below w.heap.size w wr)) (fun _ _ i _ => 13 - (intOf i).toNat)
              case atStart => exact ⟨0, by omega, rfl, rfl, rfl, hid (Hb2.out.trans (Below.mono (by go_grown) Hb2.out.size))⟩
              case round =>
                obtain ⟨k, hk, rfl, rfl, rfl, HBW⟩ := hrel
                obtain ⟨wi, rfl⟩ : ∃ wi : World, wi = wr := ⟨_, rfl⟩
                have HTl := hid (HT0.out.below HBW.out)
                by_cases k13 : k < 13
                · have hdk : decide ((k : Int) < 13) = true := by simp; omega
                  have b1 := bit_at n k hn
                  have b2 := bit_at ms k ML.out
                  have hx := ltr_ex k13
                  have DL := hid (dim_ltr k13)
                  have HT1 := hid (fun h => dimS_hit (n := n) (k := k) h)
                  have HT2' := hid (fun h => dimS_miss (n := n) (k := k) h)
                  have HT3' := hid (fun h => dimS_hit (n := ms) (k := k) h)
                  have HT4 := hid (fun h => dimS_miss (n := ms) (k := k) h)
                  have hk0 : (0 : Int) ≤ (k : Int) := Int.natCast_nonneg _
                  generalize ltr k = lk at *
                  generalize dimN k = dk at *
                  generalize dimS n k = d1 at *
                  generalize dimS ms k = d2 at *
                  cases q1 : n.testBit k
                  all_goals
                    rw [q1] at b1
                    cases q2 : ms.testBit k
                    all_goals
                      rw [q2] at b2
                      have Q1 := hid q1
                      have Q2 := hid q2
                      clear q1 q2
                      go_wp2_with (first | (go_at_call 26; (with_reducible refine (iDimensionOf_any _ _ (HTl.out.below (by go_grown))).mono ?_); rintro e w' ⟨rfl, hb⟩; rw [DL.out]; obtain ⟨HB9, hz0, hz, hc, hf⟩ := bst (w0 := wi) (by go_grown) hb; clear hb hz hc hf hz0))
                      go_roundw
                      case rel => exact ⟨k + 1, by omega, by go_num, ret_val (by first | rw [HT1.out Q1.out] | rw [HT2'.out Q1.out]), ret_val (by first | rw [HT3'.out Q2.out] | rw [HT4.out Q2.out]), hid (HBW.out.trans (Below.mono (by go_grown) HBW.out.size))⟩
                      case measure => simp [intOf]; omega
                · obtain rfl : k = 13 := by omega
                  have hdk : decide (((13 : Nat) : Int) < 13) = false := by simp
                  have hgap := HGAP.out
                  generalize dimS n 13 = d1 at *
                  generalize dimS ms 13 = d2 at *
                  by_cases hz : ms = 0
                  all_goals
                    have hz2 : ((ms : Int) == 0) = decide (ms = 0) := by rw [Bool.eq_iff_iff]; simp <;> omega
                    by_cases hg : d2 < d1
                    all_goals
                      have hg2 : decide (d2 < d1) = decide (d2 < d1) := rfl
                      (first | rw [decide_eq_true hz] at hz2 hgap | rw [decide_eq_false hz] at hz2 hgap)
                      (first | rw [decide_eq_true hg] at hgap | rw [decide_eq_false hg] at hgap)
                      first
                      | (exfalso; exact Bool.noConfusion hgap)
                      | (have hg3 := hg
                         clear hgap hg2
                         cases cb
                         all_goals
                           cases pb
                           all_goals
                             first
                             | (exfalso; exact Bool.noConfusion (HCV.out rfl))
                             | (exfalso; exact Bool.noConfusion (HPT.out rfl))
                             | (go_wp2_with (first | (go_at_call 15; (with_reducible refine (iIsConvex_any _ _ (HTl.out.below (by go_grown))).mono ?_); rintro e w' ⟨rfl, hb⟩; (first | rw [C1.out]); obtain ⟨HB, hz0, hz, hc, hf⟩ := bst (w0 := wi) (by go_grown) hb; clear hb hz hc hf hz0) | (go_at_call 27; (with_reducible refine (iIsPointable_any _ _ (HTl.out.below (by go_grown))).mono ?_); rintro e w' ⟨rfl, hb⟩; (first | rw [Q1.out]); obtain ⟨HB, hz0, hz, hc, hf⟩ := bst (w0 := wi) (by go_grown) hb; clear hb hz hc hf hz0) | (go_at_call 19; (with_reducible refine (iTurnRel_any _ _ (HTl.out.below (by go_grown))).mono ?_); rintro e w' ⟨rfl, hb⟩; (first | rw [T1.out]); obtain ⟨HB, hz0, hz, hc, hf⟩ := bst (w0 := wi) (by go_grown) hb; clear hb hz hc hf hz0) | (go_at_call 20; (with_reducible refine (iMirrorRel_any _ _ (HTl.out.below (by go_grown))).mono ?_); rintro e w' ⟨rfl, hb⟩; (first | rw [M1.out]); obtain ⟨HB, hz0, hz, hc, hf⟩ := bst (w0 := wi) (by go_grown) hb; clear hb hz hc hf hz0) | (go_at_call 22; (with_reducible refine (iIsPreconvex_any _ _ (HTl.out.below (by go_grown))).mono ?_); rintro e w' ⟨rfl, hb⟩; (first | rw [P2.out] | rw [P3.out]); obtain ⟨HB, hz0, hz, hc, hf⟩ := bst (w0 := wi) (by go_grown) hb; clear hb hz hc hf hz0))
                                go_ret
                                exact ⟨rfl, HBW.out.trans (Below.mono (by go_grown) HBW.out.size)⟩))
            · have hxp := (pcB_iff hx).1 bu
              have hnp := HPI.out (by simp)
              have PA : Hid (pcB (bits .and .i64 (n : Int) (x : Int)) = true) := hid (by rw [i64_and _ _ hn hx]; exact (pcB_iff (Nat.lt_of_le_of_lt Nat.and_le_left hn)).2 (pc_and hn hx hnp hxp))
              have D1 := hid (cmpI_on hn hx)
              have PD := hid ((pcB_iff (cmN_lt n x)).2 (pc_comp hnp hxp))
              have PU := hid bu
              clear bu hxp hnp
              generalize cmN n x = c at *
              go_wp2_with (first | (go_at_call 22; (with_reducible refine (iIsPreconvex_any _ _ (HT2.out.below (by go_grown))).mono ?_); rintro e w' ⟨rfl, hb⟩; (first | rw [PU.out] | rw [PA.out] | rw [PD.out]); obtain ⟨HB, hz0, hz, hc, hf⟩ := bst (w0 := wb) (by go_grown) hb; clear hb hz hc hf hz0) | (go_at_call 14; (with_reducible refine (iConvexHull_any _ _ (HT2.out.below (by go_grown))).mono ?_); rintro e w' ⟨rfl, hb⟩; (first | rw [E1.out]); obtain ⟨HB, hz0, hz, hc, hf⟩ := bst (w0 := wb) (by go_grown) hb; clear hb hz hc hf hz0) | (go_at_call 25; (with_reducible refine (iOtherRel_any _ _).mono ?_); rintro e w' ⟨rfl, rfl⟩; rw [O1.out]) | (go_at_call 18; (with_reducible refine (iComposeRel_any _ _ _ (HT2.out.below (by go_grown))).mono ?_); rintro e w' ⟨rfl, hb⟩; (first | rw [D1.out]); obtain ⟨HB, hz0, hz, hc, hf⟩ := bst (w0 := wb) (by go_grown) hb; clear hb hz hc hf hz0))
              rw [HAND.out]
              go_loopw [10, 11, 12] (fun d g i wr => ∃ k : Nat, k ≤ 13 ∧ i = .int .i64 k ∧ d = .int .i64 (dimS n k) ∧ g = .int .i64 (dimS ms k) ∧ Hid (Below w.heap.size w wr)) (fun _ _ i _ => 13 - (intOf i).toNat)
              case atStart => exact ⟨0, by omega, rfl, rfl, rfl, hid (Hb2.out.trans (Below.mono (by go_grown) Hb2.out.size))⟩
              case round =>
                obtain ⟨k, hk, rfl, rfl, rfl, HBW⟩ := hrel
                obtain ⟨wi, rfl⟩ : ∃ wi : World, wi = wr := ⟨_, rfl⟩
                have HTl := hid (HT0.out.below HBW.out)
                by_cases k13 : k < 13
                · have hdk : decide ((k : Int) < 13) = true := by simp; omega
                  have b1 := bit_at n k hn
                  have b2 := bit_at ms k ML.out
                  have hx := ltr_ex k13
                  have DL := hid (dim_ltr k13)
                  have HT1 := hid (fun h => dimS_hit (n := n) (k := k) h)
                  have HT2' := hid (fun h => dimS_miss (n := n) (k := k) h)
                  have HT3' := hid (fun h => dimS_hit (n := ms) (k := k) h)
                  have HT4 := hid (fun h => dimS_miss (n := ms) (k := k) h)
                  have hk0 : (0 : Int) ≤ (k : Int) := Int.natCast_nonneg _
                  generalize ltr k = lk at *
                  generalize dimN k = dk at *
                  generalize dimS n k = d1 at *
                  generalize dimS ms k = d2 at *
                  cases q1 : n.testBit k
                  all_goals
                    rw [q1] at b1
                    cases q2 : ms.testBit k
                    all_goals
                      rw [q2] at b2
                      have Q1 := hid q1
                      have Q2 := hid q2
                      clear q1 q2
                      go_wp2_with (first | (go_at_call 26; (with_reducible refine (iDimensionOf_any _ _ (HTl.out.below (by go_grown))).mono ?_); rintro e w' ⟨rfl, hb⟩; rw [DL.out]; obtain ⟨HB9, hz0, hz, hc, hf⟩ := bst (w0 := wi) (by go_grown) hb; clear hb hz hc hf hz0))
                      go_roundw
                      case rel => exact ⟨k + 1, by omega, by go_num, ret_val (by first | rw [HT1.out Q1.out] | rw [HT2'.out Q1.out]), ret_val (by first | rw [HT3'.out Q2.out] | rw [HT4.out Q2.out]), hid (HBW.out.trans (Below.mono (by go_grown) HBW.out.size))⟩
                      case measure => simp [intOf]; omega
                · obtain rfl : k = 13 := by omega
                  have hdk : decide (((13 : Nat) : Int) < 13) = false := by simp
                  have hgap := HGAP.out
                  generalize dimS n 13 = d1 at *
                  generalize dimS ms 13 = d2 at *
                  by_cases hz : ms = 0
                  all_goals
                    have hz2 : ((ms : Int) == 0) = decide (ms = 0) := by rw [Bool.eq_iff_iff]; simp <;> omega
                    by_cases hg : d2 < d1
                    all_goals
                      have hg2 : decide (d2 < d1) = decide (d2 < d1) := rfl
                      (first | rw [decide_eq_true hz] at hz2 hgap | rw [decide_eq_false hz] at hz2 hgap)
                      (first | rw [decide_eq_true hg] at hgap | rw [decide_eq_false hg] at hgap)
                      first
                      | (exfalso; exact Bool.noConfusion hgap)
                      | (have hg3 := hg
                         clear hgap hg2
                         cases cb
                         all_goals
                           cases pb
                           all_goals
                             first
                             | (exfalso; exact Bool.noConfusion (HCV.out rfl))
                             | (exfalso; exact Bool.noConfusion (HPT.out rfl))
                             | (go_wp2_with (first | (go_at_call 15; (with_reducible refine (iIsConvex_any _ _ (HTl.out.below (by go_grown))).mono ?_); rintro e w' ⟨rfl, hb⟩; (first | rw [C1.out]); obtain ⟨HB, hz0, hz, hc, hf⟩ := bst (w0 := wi) (by go_grown) hb; clear hb hz hc hf hz0) | (go_at_call 27; (with_reducible refine (iIsPointable_any _ _ (HTl.out.below (by go_grown))).mono ?_); rintro e w' ⟨rfl, hb⟩; (first | rw [Q1.out]); obtain ⟨HB, hz0, hz, hc, hf⟩ := bst (w0 := wi) (by go_grown) hb; clear hb hz hc hf hz0) | (go_at_call 19; (with_reducible refine (iTurnRel_any _ _ (HTl.out.below (by go_grown))).mono ?_); rintro e w' ⟨rfl, hb⟩; (first | rw [T1.out]); obtain ⟨HB, hz0, hz, hc, hf⟩ := bst (w0 := wi) (by go_grown) hb; clear hb hz hc hf hz0) | (go_at_call 20; (with_reducible refine (iMirrorRel_any _ _ (HTl.out.below (by go_grown))).mono ?_); rintro e w' ⟨rfl, hb⟩; (first | rw [M1.out]); obtain ⟨HB, hz0, hz, hc, hf⟩ := bst (w0 := wi) (by go_grown) hb; clear hb hz hc hf hz0) | (go_at_call 22; (with_reducible refine (iIsPreconvex_any _ _ (HTl.out.below (by go_grown))).mono ?_); rintro e w' ⟨rfl, hb⟩; (first | rw [P2.out] | rw [P3.out]); obtain ⟨HB, hz0, hz, hc, hf⟩ := bst (w0 := wi) (by go_grown) hb; clear hb hz hc hf hz0))
                                go_ret
                                exact ⟨rfl, HBW.out.trans (Below.mono (by go_grown) HBW.out.size)⟩))
    · have hd1 : decide ((1048576 : Int) < (len1 : Int)) = true := by simp; omega
      have HS := AllLt.start w; go_enter Tryd.func4, Tryd.ntmps4
      go_wp2
      go_ret
      exact ⟨rfl, Below.refl _ _⟩
  · have hd : decide ((1048576 : Int) < (len0 : Int)) = true := by simp; omega
    have HS := AllLt.start w; go_enter Tryd.func4, Tryd.ntmps4
    go_wp2
    go_ret
    exact ⟨rfl, Below.refl _ _⟩
end Go.Proofs.YtnhpjjbblegnaabDoor.C
