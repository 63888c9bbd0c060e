/- The program closes a network of points: narrowing, closing, emptiness. -/
import Derived.Test.YtmdgkhebefnfeaaDoorPntF
import Derived.Deep.RegionHeld3
namespace Go.Proofs.YtmdgkhebefnfeaaDoor.C
open Go.RowKit
set_option linter.unusedVariables false
set_option linter.unusedSimpArgs false
theorem andN64 : ∀ a b : Fin 8, bits .and .i64 ((a.val : Nat) : Int) ((b.val : Nat) : Int) = (((a.val &&& b.val : Nat)) : Int) := by decide +kernel
theorem and_natN {a b : Nat} (ha : a < 8) (hb : b < 8) : bits .and .i64 (a : Int) (b : Int) = ((a &&& b : Nat) : Int) := andN64 ⟨a, ha⟩ ⟨b, hb⟩
theorem TO.wr {q : Nat} {w w' : World} (h : TO w) (hw : Wr q w w') (hq : 0 ≠ q) : TO w' := by
  have hl := Tb.lt h
  obtain ⟨t, fr, hh⟩ := h
  exact ⟨t, fr, (hw.block _ hl hq).trans hh⟩
set_option maxHeartbeats 8000000 in
set_option maxRecDepth 100000 in
theorem narrowP_any (n g : Nat) (hne : 0 ≠ g) : ∀ (c : Nat) (N : Nat → Nat → Nat), muP n N < c → OkP n N → ∀ (i k s : Nat), i < n → k < n → s < 8 → ∀ w : World, PN w g n N → TO w →
    Calls Tryd.prog 138 #[.agg #[.int .i64 (n : Int), .map (some g)], .int .i64 i, .int .i64 k, .int .i64 s] w fun e w' => e = .returned (.tuple #[]) ∧ ∃ N', Nar n N i k s N' ∧ PN w' g n N' ∧ Wr g w w'
  | 0, N, hc => absurd hc (by omega)
  | c + 1, N, hc => by
    intro hN i k s hi hk hs w hP hT
    have IH := hid (narrowP_any n g hne c)
    have h12 := hN.le
    have HOK := hid hN
    have HC := hid hc
    have HGL := hid hP.lt
    have HB1 := hid ((Below.refl w.heap.size w).alloc (Nat.le_refl _) (.cells #[.int .i64 (n : Int), .map (some g)] 65))
    have HA1 := hid (PB.made w n g)
    have HP1 := hid (hP.below HB1.out)
    have HT1 := hid (hT.below HB1.out)
    have n8 := hN.lt i k hi hk
    have han : bits .and .i64 ((N i k : Nat) : Int) (s : Int) = ((N i k &&& s : Nat) : Int) := and_natN n8 hs
    have ha8 := and_lt8 n8 hs
    clear hN hc hP hT
    have HS := AllLt.start w; go_enter Tryd.func138, Tryd.ntmps138
    go_upto_region 1 with fail
    generalize w.alloc (.cells #[.int .i64 (n : Int), .map (some g)] 65) = w1 at *
    have p0 := HA1.out.c0
    have p1 := HA1.out.c1
    go_wp2_with fail
    (with_reducible refine (pset_any g n N HOK.out i k hi hk _ HP1.out HT1.out).mono ?_)
    rintro e w2 ⟨rfl, hb⟩
    have HA2 := hid (HA1.out.below hb)
    have HP2 := hid (HP1.out.below hb)
    have HT2 := hid (HT1.out.below hb)
    have HB2 := hid (HB1.out.trans (hb.mono HB1.out.size))
    clear hb p0 p1
    have p0 := HA2.out.c0
    have p1 := HA2.out.c1
    by_cases hik : i = k
    · have hq : ((i : Int) == (k : Int)) = true := by rw [hik]; simp
      have HNN := hid (Nar.none (s := s) HOK.out (.inl hik))
      clear hik
      go_wp2_with fail
      ((try simp only [Exit.inBlock, Exit.then]); refine bodyPost_ret (results_none rfl _ _ _) rfl ?_)
      exact ⟨rfl, N, HNN.out, HP2.out, Wr.of_below HB2.out⟩
    · have hq : ((i : Int) == (k : Int)) = false := by rw [beq_eq_false_iff_ne]; omega
      go_wp2_with fail
      (with_reducible refine (pset_any g n N HOK.out i k hi hk _ HP2.out HT2.out).mono ?_)
      rintro e w3 ⟨rfl, hb⟩
      have HA3 := hid (HA2.out.below hb)
      have HP3 := hid (HP2.out.below hb)
      have HT3 := hid (HT2.out.below hb)
      have HB3 := hid (HB2.out.trans (hb.mono HB2.out.size))
      clear hb p0 p1
      have p0 := HA3.out.c0
      have p1 := HA3.out.c1
      by_cases hle : (N i k &&& s) = N i k
      · have hq2 : (((N i k &&& s : Nat) : Int) == ((N i k : Nat) : Int)) = true := by rw [hle]; simp
        have HNN := hid (Nar.none (s := s) HOK.out (.inr hle) (i := i) (k := k))
        clear hik hle
        go_wp2_with fail
        ((try simp only [Exit.inBlock, Exit.then]); refine bodyPost_ret (results_none rfl _ _ _) rfl ?_)
        exact ⟨rfl, N, HNN.out, HP3.out, Wr.of_below HB3.out⟩
      · have hq2 : (((N i k &&& s : Nat) : Int) == ((N i k : Nat) : Int)) = false := by rw [beq_eq_false_iff_ne]; omega
        have HPO := hid (HOK.out.put hi hk hik ha8)
        have HMU := hid (mu_put HOK.out hi hk hik hs hle)
        have HST := hid (NarI.start HOK.out hi hk hik hs)
        have HIK := hid hik
        clear hle
        go_wp2_with fail
        (with_reducible refine (pput_any g n N i k (N i k &&& s) (by omega) (by omega) hik ha8 _ HP3.out HT3.out).mono ?_)
        rintro e w4 ⟨rfl, hn4, hw4⟩
        have HP4 := hid hn4
        have HW4 := hid ((Wr.of_below (q := g) HB3.out).trans hw4)
        have HBG := hid (show w.heap.size ≠ g from by have := HGL.out; omega)
        have HA4 := hid (HA3.out.wr hw4 HBG.out)
        have HT4 := hid (HT3.out.wr hw4 hne)
        have hl8 : pv ((N i k &&& s : Nat) : Int) = true := pv_nat ha8
        clear hn4 hw4 p0 p1 hik
        have p0 := HA4.out.c0
        go_wp2_with fail
        clear p0
        go_loopw [35] (fun a wr => ∃ l : Nat, l ≤ n ∧ a = .int .i64 l ∧ ∃ N' : Nat → Nat → Nat, Hid (NarI n N i k s N' l) ∧ Hid (PN wr g n N') ∧ Hid (Wr g w4 wr)) (fun a _ => n - (intOf a).toNat)
        case atStart => exact ⟨0, by omega, rfl, _, HST, HP4, hid (Wr.refl _ _)⟩
        case round =>
          obtain ⟨l, hl, rfl, N', HI, HPi, HWi⟩ := hrel
          clear HS
          obtain ⟨wi, rfl⟩ : ∃ wi : World, wi = wr := ⟨_, rfl⟩
          by_cases hln : l < n
          · have hdj : decide ((l : Int) < (n : Int)) = true := by simp; omega
            have HAi := hid (HA4.out.wr HWi.out HBG.out)
            have HTi := hid (HT4.out.wr HWi.out hne)
            have HMI := hid (show muP n N' < c from by
              have h1 := mu_sub HI.out.ok HPO.out HI.out.sub
              have h2 := HMU.out
              have h3 := HC.out
              omega)
            have p0 := HAi.out.c0
            have p1 := HAi.out.c1
            have hbl := HAi.out.lt
            have hkl8 := HI.out.ok.lt k l hk hln
            have hck : cps ((N i k &&& s : Nat) : Int) ((N' k l : Nat) : Int) = ((cpn (N i k &&& s) (N' k l) : Nat) : Int) := cps_cpn ha8 hkl8
            have hc8 := cpn_lt ha8 hkl8
            have HPV := hid (pv_nat hkl8)
            have HCK := hid hck
            go_wp2_with fail
            go_region_held3 (fun wx => wx.cell? ⟨w.heap.size, 0, none⟩ = some (.int .i64 (n : Int)) ∧ wx.cell? ⟨w.heap.size, 1, none⟩ = some (.map (some g))) (first | exact ⟨p0, p1⟩ | exact ⟨by rw [HX.cell (p := ⟨w.heap.size, 0, none⟩) hbl]; exact p0, by rw [HX.cell (p := ⟨w.heap.size, 1, none⟩) hbl]; exact p1⟩ | exact ⟨HA6.out.c0, HA6.out.c1⟩)
              (first
                 | (go_at_call 55; (with_reducible refine (pset_any g n N' HI.out.ok k l hk hln _ (HPi.out.below (by go_grown)) (HTi.out.below (by go_grown))).mono ?_); rintro e w5 ⟨rfl, hb'⟩; obtain ⟨HX, hz0', hz', hc', hf'⟩ := bst (w0 := wi) (by go_grown) hb'; clear hb' hf' hc' hz' hz0')
                 | (go_at_call 164; (with_reducible refine (then_any _ _ _ hl8 HPV.out (HTi.out.below (by go_grown))).mono ?_); rintro e w5 ⟨rfl, hb'⟩; rw [HCK.out]; obtain ⟨HX, hz0', hz', hc', hf'⟩ := bst (w0 := wi) (by go_grown) hb'; clear hb' hf' hc' hz' hz0')
                 | (go_at_call 138; (with_reducible refine (IH.out N' HMI.out HI.out.ok i l _ hi hln hc8 _ (HPi.out.below (by go_grown)) (HTi.out.below (by go_grown))).mono ?_); rintro e w6 ⟨rfl, N1, hnar, hpn, hwr⟩; have HN1 := hid hnar; have HP6 := hid hpn; have HW6 := hid ((Wr.of_below (q := g) HX).trans hwr); have HA6 := hid (HAi.out.wr HW6.out HBG.out); clear hnar hpn hwr) | fail)
            all_goals
              clear p0 p1 hck hc8 hkl8
              have p0 := HA6.out.c0
              have p1 := HA6.out.c1
              have hbl6 := HA6.out.lt
              have HT6 := hid (HTi.out.wr HW6.out hne)
              have hli8 := HN1.out.ok.lt l i hln hi
              have hcl8 := cpn_lt hli8 ha8
              have HPV2 := hid (pv_nat hli8)
              have HCL := hid (show cps ((N1 l i : Nat) : Int) ((N i k &&& s : Nat) : Int) = ((cpn (N1 l i) (N i k &&& s) : Nat) : Int) from cps_cpn hli8 ha8)
              have HM1 := hid (show muP n N1 < c from by
                have h1 := mu_sub HN1.out.ok HI.out.ok HN1.out.sub
                have h2 := HMI.out
                omega)
              go_wp2_with fail
              go_region_held3 (fun wx => wx.cell? ⟨w.heap.size, 0, none⟩ = some (.int .i64 (n : Int)) ∧ wx.cell? ⟨w.heap.size, 1, none⟩ = some (.map (some g))) (first | exact ⟨p0, p1⟩ | exact ⟨by rw [HY.cell (p := ⟨w.heap.size, 0, none⟩) hbl6]; exact p0, by rw [HY.cell (p := ⟨w.heap.size, 1, none⟩) hbl6]; exact p1⟩ | exact ⟨HA8.out.c0, HA8.out.c1⟩)
                (first
                   | (go_at_call 55; (with_reducible refine (pset_any g n N1 HN1.out.ok l i hln hi _ (HP6.out.below (by go_grown)) (HT6.out.below (by go_grown))).mono ?_); rintro e w7 ⟨rfl, hb'⟩; obtain ⟨HY, hz0', hz', hc', hf'⟩ := bst (w0 := w6) (by go_grown) hb'; clear hb' hf' hc' hz' hz0')
                   | (go_at_call 164; (with_reducible refine (then_any _ _ _ HPV2.out hl8 (HT6.out.below (by go_grown))).mono ?_); rintro e w7 ⟨rfl, hb'⟩; rw [HCL.out]; obtain ⟨HY, hz0', hz', hc', hf'⟩ := bst (w0 := w6) (by go_grown) hb'; clear hb' hf' hc' hz' hz0')
                   | (go_at_call 138; (with_reducible refine (IH.out N1 HM1.out HN1.out.ok l k _ hln hk hcl8 _ (HP6.out.below (by go_grown)) (HT6.out.below (by go_grown))).mono ?_); rintro e w8 ⟨rfl, N2, hnar, hpn, hwr⟩; have HN2 := hid hnar; have HP8 := hid hpn; have HW8 := hid ((Wr.of_below (q := g) HY).trans hwr); have HA8 := hid (HA6.out.wr HW8.out HBG.out); clear hnar hpn hwr) | fail)
              all_goals
                have HI2 := hid (NarI.step HOK.out hs HI.out hi hk HIK.out hln HN1.out HN2.out)
                have HWn := hid (HWi.out.trans (HW6.out.trans HW8.out))
                clear p0 p1
                go_wp2_with fail
                go_roundw
                case rel => exact ⟨l + 1, by omega, by go_num, N2, HI2, HP8, HWn⟩
                case measure => simp [intOf]; omega
          · obtain rfl : l = n := by omega
            have hdj : decide ((l : Int) < (l : Int)) = false := by simp
            have HD := hid (NarI.done HOK.out hs hi hk HIK.out HI.out)
            go_wp2_with fail
            go_end0
            exact ⟨rfl, N', HD.out, HPi.out, HW4.out.trans HWi.out⟩
end Go.Proofs.YtmdgkhebefnfeaaDoor.C
