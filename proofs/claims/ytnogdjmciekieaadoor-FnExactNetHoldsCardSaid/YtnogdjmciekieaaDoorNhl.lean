/- Whether intervals are a model of a network: the program, the model, the exact law. -/
import Derived.Test.YtnogdjmciekieaaDoorNol
import Derived.Test.YtnogdjmciekieaaDoorNtl
namespace Go.Proofs.YtnogdjmciekieaaDoor.C
open Go.RowKit
set_option linter.unusedVariables false
set_option linter.unusedSimpArgs false
noncomputable def hldB (n : Nat) (F T : Nat → Int) (z : Int) (s : ByteArray) : Bool := plV n F T && winB n (netS n (novR n F T)) z s
theorem hldB_off {n : Nat} {F T : Nat → Int} {z : Int} {s : ByteArray} (h : plV n F T = false) : hldB n F T z s = false := by unfold hldB; rw [h, Bool.false_and]
theorem hldB_on {n : Nat} {F T : Nat → Int} {z : Int} {s : ByteArray} (h : plV n F T = true) : hldB n F T z s = winB n (netS n (novR n F T)) z s := by unfold hldB; rw [h, Bool.true_and]
theorem hldB_nv {n : Nat} {F T : Nat → Int} {z : Int} {s : ByteArray} (h : NV z s = false) : hldB n F T z s = false := by
  unfold hldB
  rw [winB_no (by simp [botB, h]), Bool.and_false]
theorem hldB_sz {n : Nat} {F T : Nat → Int} {z : Int} {s : ByteArray} (h : ¬ (n : Int) = z) : hldB n F T z s = false := by
  unfold hldB
  rw [winB_no (by simp [botB, h]), Bool.and_false]
theorem hldB_in {n : Nat} {F T : Nat → Int} {R : Nat → Nat → Nat} (h : plV n F T = true) (hR : OkR n R) : hldB n F T n (netS n R) = (edL n).all fun p => (R p.1 p.2).testBit (rlN F T p.1 p.2) := by
  rw [hldB_on h, winB_yes (nov_ok h) hR]
  unfold witB
  rw [Bool.eq_iff_iff, List.all_eq_true, List.all_eq_true]
  have key : ∀ p ∈ edL n, decide (novR n F T p.1 p.2 &&& R p.1 p.2 = novR n F T p.1 p.2) = (R p.1 p.2).testBit (rlN F T p.1 p.2) := fun p hp => by
    have hp := edL_mem.1 hp
    rw [novR_in (by omega) hp.2, Bool.eq_iff_iff, decide_eq_true_eq, sub_iff]
    constructor
    · intro hh; exact hh _ (by simp [Nat.testBit_two_pow])
    · intro hh j hj
      rw [Nat.testBit_two_pow] at hj
      have := of_decide_eq_true hj
      rw [← this]; exact hh
  constructor
  · intro hh p hp; rw [← key p hp]; exact hh p hp
  · intro hh p hp; rw [key p hp]; exact hh p hp
set_option maxHeartbeats 1000000 in
set_option maxRecDepth 100000 in
theorem iNetHolds_off (z y : Int) (s t : ByteArray) (v : Value) (w : World) (HN : ∀ w1, Below w.heap.size w w1 → Calls Tryd.prog 10 #[v] w1 fun e w' => e = .returned (.tuple #[.agg #[.int .i64 y, .string t], .bool false]) ∧ Below w1.heap.size w1 w') :
    Calls Tryd.prog 16 #[.agg #[.int .i64 z, .string s], v] w fun e w' => e = .returned (.bool false) ∧ Below w.heap.size w w' := by
  have HB := hid ((Below.refl w.heap.size w).alloc (Nat.le_refl _) (.cells #[.int .i64 z, .string s] 25))
  have HI := hid (HN _ HB.out)
  clear HN
  have HS := AllLt.start w; go_enter Tryd.func16, Tryd.ntmps16
  go_wp2_with fail
  (with_reducible refine HI.out.mono ?_)
  rintro e w2 ⟨rfl, hb⟩
  have HB2 := hid (HB.out.trans (hb.mono (by simp)))
  have HB3 := hid (HB2.out.alloc HB2.out.size (.cells #[.int .i64 y, .string t] 25))
  clear hb
  go_wp2_with fail
  go_ret
  exact ⟨rfl, HB3.out⟩
set_option maxHeartbeats 1000000 in
set_option maxRecDepth 100000 in
theorem iNetHolds_on (z y : Int) (s t : ByteArray) (v : Value) (w : World) (hT : TB w) (HN : ∀ w1, Below w.heap.size w w1 → Calls Tryd.prog 10 #[v] w1 fun e w' => e = .returned (.tuple #[.agg #[.int .i64 y, .string t], .bool true]) ∧ Below w1.heap.size w1 w') :
    Calls Tryd.prog 16 #[.agg #[.int .i64 z, .string s], v] w fun e w' => e = .returned (.bool (winB y t z s)) ∧ Below w.heap.size w w' := by
  have HB := hid ((Below.refl w.heap.size w).alloc (Nat.le_refl _) (.cells #[.int .i64 z, .string s] 25))
  have HK := hid (Nk.made w z s)
  have HI := hid (HN _ HB.out)
  have HT := hid hT
  clear HN hT
  have HS := AllLt.start w; go_enter Tryd.func16, Tryd.ntmps16
  go_wp2_with fail
  (with_reducible refine HI.out.mono ?_)
  rintro e w2 ⟨rfl, hb⟩
  have HB2 := hid (HB.out.trans (hb.mono (by simp)))
  have HB3 := hid (HB2.out.alloc HB2.out.size (.cells #[.int .i64 y, .string t] 25))
  have HK2 := hid (nk_alloc (HK.out.below hb HK.out.lt) (.cells #[.int .i64 y, .string t] 25))
  have HG := hid (Nk.made w2 y t)
  clear hb HK
  have k0 := HK2.out.c0
  have k1 := HK2.out.c1
  have g0 := HG.out.c0
  have g1 := HG.out.c1
  go_wp2_with fail
  (with_reducible refine (iWithinNet_any _ _ _ _ _ (HT.out.below HB3.out)).mono ?_)
  rintro e w4 ⟨rfl, hb⟩
  have HB4 := hid (HB3.out.trans (hb.mono HB3.out.size))
  clear hb k0 k1 g0 g1
  go_wp2_with fail
  go_ret
  exact ⟨rfl, HB4.out⟩
theorem iNetHolds_any (b cap n : Nat) (F T : Nat → Int) (z : Int) (s : ByteArray) (w : World) (hn : n ≤ 1048576) (h1 : n ≤ cap) (hR : Rv w b n F T) (hT : TB w) :
    Calls Tryd.prog 16 #[.agg #[.int .i64 z, .string s], .slice (some ⟨b, 0, none⟩) n cap] w fun e w' => e = .returned (.bool (hldB n F T z s)) ∧ Below w.heap.size w w' := by
  cases h : plV n F T
  · rw [hldB_off h]
    refine iNetHolds_off z 0 s ⟨#[]⟩ _ w fun w1 hb => ?_
    by_cases hs : 1 ≤ n ∧ n ≤ 6
    · have ha : alV n F T = false := by
        unfold plV at h
        rw [decide_eq_true hs, Bool.true_and] at h; exact h
      exact iNetOf_bad b cap n F T w1 h1 (hR.below hb) hs ha
    · exact iNetOf_size _ _ n cap rfl hs w1
  · rw [hldB_on h]
    exact iNetHolds_on z n s _ _ w hT fun w1 hb => iNetOf_yes b cap n F T w1 h1 (hR.below hb) h (hT.below hb)
set_option maxHeartbeats 2000000 in
set_option maxRecDepth 100000 in
theorem sNetHolds_any (b cap n : Nat) (F T : Nat → Int) (z : Int) (s : ByteArray) (w : World) (hn : n ≤ 1048576) (h1 : n ≤ cap) (hR : Rv w b n F T) :
    Calls Tryd.prog 14 #[.agg #[.int .i64 z, .string s], .slice (some ⟨b, 0, none⟩) n cap] w fun e w' => e = .returned (.bool (hldB n F T z s)) ∧ Below w.heap.size w w' := by
  have HB := hid ((Below.refl w.heap.size w).alloc (Nat.le_refl _) (.cells #[.int .i64 z, .string s] 25))
  have HK := hid (Nk.made w z s)
  have HN := hid (sNetValid_any z s)
  have HR := hid hR
  clear hR
  cases hnv : NV z s
  · have HV := hid (hldB_nv (n := n) (F := F) (T := T) hnv)
    rw [hnv] at HN
    clear hnv
    have k0 := HK.out.c0
    have k1 := HK.out.c1
    have HS := AllLt.start w; go_enter Tryd.func14, Tryd.ntmps14
    go_wp2_with fail
    (with_reducible refine (HN.out _).mono ?_)
    rintro e w2 ⟨rfl, hb⟩
    have HB2 := hid (HB.out.trans (hb.mono (by simp)))
    clear hb k0 k1
    go_wp2_with fail
    go_ret
    exact ⟨ret_bool HV.out.symm, HB2.out⟩
  · rw [hnv] at HN
    cases hpl : plV n F T
    · have HV := hid (hldB_off (z := z) (s := s) hpl)
      clear hnv
      have k0 := HK.out.c0
      have k1 := HK.out.c1
      have HS := AllLt.start w; go_enter Tryd.func14, Tryd.ntmps14
      go_wp2_with fail
      (with_reducible refine (HN.out _).mono ?_)
      rintro e w2 ⟨rfl, hb⟩
      have HB2 := hid (HB.out.trans (hb.mono (by simp)))
      have HP := hid (l5All_any b cap n F T _ (by omega) h1 (HR.out.below HB2.out))
      rw [hpl] at HP
      clear hb k0 k1
      go_wp2_with fail
      (with_reducible refine HP.out.mono ?_)
      rintro e w3 ⟨rfl, hb⟩
      have HB3 := hid (HB2.out.trans (hb.mono HB2.out.size))
      clear hb
      go_wp2_with fail
      go_ret
      exact ⟨ret_bool HV.out.symm, HB3.out⟩
    · by_cases hz : (n : Int) = z
      · subst hz
        obtain ⟨n', R, hRo, hzz, rfl⟩ := nv_iff.1 hnv
        obtain rfl : n = n' := by omega
        have hV := hldB_in hpl hRo
        have hvv := (plV_iff.1 hpl).2
        have h6 := hRo.le
        have HRI := hid (fun i k (hi : i < n) (hk : k < n) => rinI_in hRo hi hk)
        have HRR := hid (sRelIn_any (n : Int) (netS n R))
        have HLT := hid hRo.lt
        have HRL := hid (fun i k (hi : i < n) (hk : k < n) => rl_lie hvv hi hk)
        generalize hldB n F T n (netS n R) = val at *
        clear hnv hzz hRo hvv
        generalize netS n R = s at *
        have HV := hid hV
        clear hV
        have k0 := HK.out.c0
        have k1 := HK.out.c1
        have HS := AllLt.start w; have hn2 := lt2; have hn3 := lt3; have hn4 := lt4; go_enter Tryd.func14, Tryd.ntmps14
        go_wp2_with fail
        (with_reducible refine (HN.out _).mono ?_)
        rintro e w2 ⟨rfl, hb⟩
        have HB2 := hid (HB.out.trans (hb.mono (by simp)))
        have HK2 := hid (HK.out.below hb HK.out.lt)
        have HP := hid (l5All_any b cap n F T _ (by omega) h1 (HR.out.below HB2.out))
        rw [hpl] at HP
        clear hb k0 k1 hpl
        go_wp2_with fail
        (with_reducible refine HP.out.mono ?_)
        rintro e w3 ⟨rfl, hb⟩
        have HB3 := hid (HB2.out.trans (hb.mono HB2.out.size))
        have HK3 := hid (HK2.out.below hb HK2.out.lt)
        clear hb HP HK2 HB2
        have k0 := HK3.out.c0
        go_wp2_with fail
        clear k0
        go_loopw [5] (fun a wr => ∃ i : Nat, i ≤ n ∧ a = .int .i64 i ∧ Hid (∀ p ∈ edL n, p.1 < i → (R p.1 p.2).testBit (rlN F T p.1 p.2) = true) ∧ Hid (Nk wr w.heap.size n s) ∧ Hid (Below w.heap.size w wr)) (fun a _ => n - (intOf a).toNat)
        case atStart => exact ⟨0, by omega, rfl, hid (fun p _ h => by omega), HK3, HB3⟩
        case round =>
          obtain ⟨i, hi, rfl, HF, HKo, HBo⟩ := hrel
          clear HS HK3 HB3
          obtain ⟨wo, rfl⟩ : ∃ wo : World, wo = wr := ⟨_, rfl⟩
          have k0 := HKo.out.c0
          by_cases hin : i < n
          · have hdi : decide ((i : Int) < (n : Int)) = true := by simp; omega
            have HF0 := hid (show ∀ p ∈ edL n, (p.1 < i ∨ (p.1 = i ∧ p.2 < i + 1)) → (R p.1 p.2).testBit (rlN F T p.1 p.2) = true from fun p hp h => by
              have := edL_mem.1 hp
              exact HF.out p hp (by omega))
            go_wp2_with fail
            clear k0
            go_loopw [6] (fun a wr => ∃ k : Nat, i + 1 ≤ k ∧ k ≤ n ∧ a = .int .i64 k ∧ Hid (∀ p ∈ edL n, (p.1 < i ∨ (p.1 = i ∧ p.2 < k)) → (R p.1 p.2).testBit (rlN F T p.1 p.2) = true) ∧ Hid (Nk wr w.heap.size n s) ∧ Hid (Below w.heap.size w wr)) (fun a _ => n - (intOf a).toNat)
            case atStart => exact ⟨i + 1, by omega, by omega, by go_num, HF0, HKo, HBo⟩
            case round =>
              obtain ⟨k, hik, hk, rfl, HG, HKi, HBi⟩ := hrel
              (try clear HF0 HKo HBo HF)
              obtain ⟨wi, rfl⟩ : ∃ wi : World, wi = wr := ⟨_, rfl⟩
              have k0 := HKi.out.c0
              by_cases hkn : k < n
              · have hdk : decide ((k : Int) < (n : Int)) = true := by simp; omega
                have k1 := HKi.out.c1
                obtain ⟨hr13, hbat, _⟩ := HRL.out i k hin hkn
                have hri := HRI.out i k hin hkn
                have HRC := hid (HRR.out (i : Int) (k : Int))
                rw [hri] at HRC
                have hlt := HLT.out i k
                have hRi := HR.out.below HBi.out
                obtain ⟨x0, x1⟩ := hRi.2 i hin
                obtain ⟨y0, y1⟩ := hRi.2 k hkn
                have zb := hRi.1
                have zk := HKi.out.lt
                have hdx : decide (i < n) = true := decide_eq_true hin
                have hdy : decide (k < n) = true := decide_eq_true hkn
                have HBT := hid hbat
                have HMEM := hid (show (i, k) ∈ edL n from edL_mem.2 ⟨by show i < k; omega, hkn⟩)
                cases ht : (R i k).testBit (rlN F T i k)
                · have HVV := hid (show val = false by
                    rw [HV.out, List.all_eq_false]
                    exact ⟨(i, k), HMEM.out, by show ¬ (R i k).testBit (rlN F T i k) = true; rw [ht]; simp⟩)
                  have HL3 := hid (fun w => l3Has_any (R i k) (rlN F T i k) hlt hr13 w)
                  rw [ht] at HL3
                  clear ht hri hbat hRi HG hlt
                  generalize R i k = q at *
                  generalize rlN F T i k = r at *
                  generalize F i = fa at *
                  generalize T i = fb at *
                  generalize F k = fc at *
                  generalize T k = fd at *
                  go_wp2_with fail
                  go_region_held3 (fun wx => wx.cell? ⟨w.heap.size, 0, none⟩ = some (.int .i64 (n : Int)) ∧ wx.cell? ⟨w.heap.size, 1, none⟩ = some (.string s) ∧ wx.cell? ⟨b, i * 2, none⟩ = some (.int .i64 fa) ∧ wx.cell? ⟨b, i * 2 + 1, none⟩ = some (.int .i64 fb) ∧ wx.cell? ⟨b, k * 2, none⟩ = some (.int .i64 fc) ∧ wx.cell? ⟨b, k * 2 + 1, none⟩ = some (.int .i64 fd))
                    (first | exact ⟨k0, k1, x0, x1, y0, y1⟩ | exact ⟨by rw [HX.cell (p := ⟨w.heap.size, 0, none⟩) zk]; exact k0, by rw [HX.cell (p := ⟨w.heap.size, 1, none⟩) zk]; exact k1, by rw [HX.cell (p := ⟨b, i * 2, none⟩) zb]; exact x0, by rw [HX.cell (p := ⟨b, i * 2 + 1, none⟩) zb]; exact x1, by rw [HX.cell (p := ⟨b, k * 2, none⟩) zb]; exact y0, by rw [HX.cell (p := ⟨b, k * 2 + 1, none⟩) zb]; exact y1⟩ | go_keep)
                    (first | (go_at_call 41; (with_reducible refine (HRC.out _).mono ?_); rintro e w' ⟨rfl, hb⟩; obtain ⟨HX, hz0, hz, hcx, hfx⟩ := bst (w0 := wi) (by go_grown) hb; clear hb hz0 hz hcx hfx) | (go_at_call 27; (with_reducible refine (l2Rel_any _ _ _ _ _).mono ?_); rintro e w' ⟨rfl, hb⟩; rw [HBT.out]; obtain ⟨HX, hz0, hz, hcx, hfx⟩ := bst (w0 := wi) (by go_grown) hb; clear hb hz0 hz hcx hfx) | (go_at_call 40; (with_reducible refine (HL3.out _).mono ?_); rintro e w' ⟨rfl, rfl⟩) | fail)
                  all_goals
                    have HY := hid (HBi.out.trans (HX.mono HBi.out.size))
                    clear HX
                    go_wp2_with fail
                    go_ret
                    exact ⟨ret_bool HVV.out.symm, HY.out⟩
                · have HG2 : Hid (∀ p ∈ edL n, (p.1 < i ∨ (p.1 = i ∧ p.2 < k + 1)) → (R p.1 p.2).testBit (rlN F T p.1 p.2) = true) := hid (fun p hp h => by
                    by_cases e : p.1 = i ∧ p.2 = k
                    · rw [e.1, e.2]; exact ht
                    · exact HG.out p hp (by omega))
                  have HL3 := hid (fun w => l3Has_any (R i k) (rlN F T i k) hlt hr13 w)
                  rw [ht] at HL3
                  clear ht hri hbat hRi HG hlt HMEM
                  generalize R i k = q at HRC HL3
                  generalize rlN F T i k = r at hr13 HBT HL3
                  generalize F i = fa at x0 HBT
                  generalize T i = fb at x1 HBT
                  generalize F k = fc at y0 HBT
                  generalize T k = fd at y1 HBT
                  go_wp2_with fail
                  go_region_held3 (fun wx => wx.cell? ⟨w.heap.size, 0, none⟩ = some (.int .i64 (n : Int)) ∧ wx.cell? ⟨w.heap.size, 1, none⟩ = some (.string s) ∧ wx.cell? ⟨b, i * 2, none⟩ = some (.int .i64 fa) ∧ wx.cell? ⟨b, i * 2 + 1, none⟩ = some (.int .i64 fb) ∧ wx.cell? ⟨b, k * 2, none⟩ = some (.int .i64 fc) ∧ wx.cell? ⟨b, k * 2 + 1, none⟩ = some (.int .i64 fd))
                    (first | exact ⟨k0, k1, x0, x1, y0, y1⟩ | exact ⟨by rw [HX.cell (p := ⟨w.heap.size, 0, none⟩) zk]; exact k0, by rw [HX.cell (p := ⟨w.heap.size, 1, none⟩) zk]; exact k1, by rw [HX.cell (p := ⟨b, i * 2, none⟩) zb]; exact x0, by rw [HX.cell (p := ⟨b, i * 2 + 1, none⟩) zb]; exact x1, by rw [HX.cell (p := ⟨b, k * 2, none⟩) zb]; exact y0, by rw [HX.cell (p := ⟨b, k * 2 + 1, none⟩) zb]; exact y1⟩ | go_keep)
                    (first | (go_at_call 41; (with_reducible refine (HRC.out _).mono ?_); rintro e w' ⟨rfl, hb⟩; obtain ⟨HX, hz0, hz, hcx, hfx⟩ := bst (w0 := wi) (by go_grown) hb; clear hb hz0 hz hcx hfx) | (go_at_call 27; (with_reducible refine (l2Rel_any _ _ _ _ _).mono ?_); rintro e w' ⟨rfl, hb⟩; rw [HBT.out]; obtain ⟨HX, hz0, hz, hcx, hfx⟩ := bst (w0 := wi) (by go_grown) hb; clear hb hz0 hz hcx hfx) | (go_at_call 40; (with_reducible refine (HL3.out _).mono ?_); rintro e w' ⟨rfl, rfl⟩) | fail)
                  all_goals
                    have HY := hid (HBi.out.trans (HX.mono HBi.out.size))
                    have HKY := hid (HKi.out.below HX zk)
                    clear HX k0 k1 x0 x1 y0 y1
                    go_wp2_with fail
                    go_roundw
                    case rel => exact ⟨k + 1, by omega, by omega, by go_num, HG2, HKY, HY⟩
                    case measure => simp [intOf]; omega
              · obtain rfl : k = n := by omega
                have hdk : decide ((k : Int) < (k : Int)) = false := by simp
                have HF2 := hid (show ∀ p ∈ edL k, p.1 < i + 1 → (R p.1 p.2).testBit (rlN F T p.1 p.2) = true from fun p hp h => by
                  have := edL_mem.1 hp
                  exact HG.out p hp (by omega))
                go_wp2_with fail
                clear k0
                go_roundw
                case rel => exact ⟨i + 1, by omega, by go_num, HF2, HKi, HBi⟩
                case measure => simp [intOf]; omega
          · obtain rfl : i = n := by omega
            have hdi : decide ((i : Int) < (i : Int)) = false := by simp
            have HVV := hid (show val = true by
              rw [HV.out, List.all_eq_true]
              intro p hp
              have := edL_mem.1 hp
              exact HF.out p hp (by omega))
            go_wp2_with fail
            go_ret
            exact ⟨ret_bool HVV.out.symm, HBo.out⟩
      · have HV := hid (hldB_sz (F := F) (T := T) (s := s) hz)
        have hne : ((n : Int) != z) = true := by simpa using hz
        clear hnv
        have k0 := HK.out.c0
        have k1 := HK.out.c1
        have HS := AllLt.start w; go_enter Tryd.func14, Tryd.ntmps14
        go_wp2_with fail
        (with_reducible refine (HN.out _).mono ?_)
        rintro e w2 ⟨rfl, hb⟩
        have HB2 := hid (HB.out.trans (hb.mono (by simp)))
        have HK2 := hid (HK.out.below hb HK.out.lt)
        have HP := hid (l5All_any b cap n F T _ (by omega) h1 (HR.out.below HB2.out))
        rw [hpl] at HP
        clear hb k0 k1
        go_wp2_with fail
        (with_reducible refine HP.out.mono ?_)
        rintro e w3 ⟨rfl, hb⟩
        have HB3 := hid (HB2.out.trans (hb.mono HB2.out.size))
        have HK3 := hid (HK2.out.below hb HK2.out.lt)
        clear hb
        have k0 := HK3.out.c0
        go_wp2_with fail
        go_ret
        exact ⟨ret_bool HV.out.symm, HB3.out⟩
theorem szIv_at (a : Option Addr) (len cap : Nat) (left : Int) (h0 : (len : Int) ≤ left) (h1 : left ≤ 1048576) (w : World) :
    Calls Tryd.prog 7 #[.slice a len cap, .int .i64 left] w fun e w' => e = .returned (.int .i64 (left - (len : Int))) ∧ w = w' := by
  have h2 : ¬ (left - (len : Int) < 0) := by omega
  have h4 : IntKind.i64.wrap (left - (len : Int)) = left - (len : Int) := IntWalk.i64_in _ (by omega)
  have HS := AllLt.start w; go_enter Tryd.func7, Tryd.ntmps7
  go_wp2
  go_ret
  exact ⟨rfl, rfl⟩
theorem szIv_out (a : Option Addr) (len cap : Nat) (left : Int) (h0 : ¬ (len : Int) ≤ left) (hm : len ≤ maxLen) (hl : 0 ≤ left) (h1 : left ≤ 1048576) (w : World) :
    Calls Tryd.prog 7 #[.slice a len cap, .int .i64 left] w fun e w' => e = .returned (.int .i64 (-1)) ∧ w = w' := by
  unfold maxLen at hm
  have h2 : left - (len : Int) < 0 := by omega
  have h4 : IntKind.i64.wrap (left - (len : Int)) = left - (len : Int) := IntWalk.i64_in _ (by omega)
  have HS := AllLt.start w; go_enter Tryd.func7, Tryd.ntmps7
  go_wp2
  go_ret
  exact ⟨rfl, rfl⟩
set_option maxHeartbeats 2000000 in
set_option maxRecDepth 100000 in
theorem walk_FnExactNetHolds (a00 : Int) (a01 : ByteArray) (a1 : Option Addr) (len1 cap1 : Nat) (F1 T1 : Nat → Int) (w : World) (w00 : (Lit.int .i64 a00).wf = true) (w01 : a01.size ≤ maxLen) (w1 : Row2 w a1 len1 cap1 F1 T1) (hB : TB w) :
    Calls Tryd.prog 4 #[.agg #[.int .i64 a00, .string a01], .slice a1 len1 cap1] w fun e w' => e = .returned (.bool true) ∧ Below w.heap.size w w' := by
  have HT := hid hB
  have HA := hid w1
  clear hB w00 w1
  have HB0 := hid ((Below.refl w.heap.size w).alloc (Nat.le_refl _) (.cells #[.int .i64 a00, .string a01] 33))
  have HN0 := hid (show (w.alloc (.cells #[.int .i64 a00, .string a01] 33)).cell? ⟨w.heap.size, 0, none⟩ = some (.int .i64 a00) ∧ (w.alloc (.cells #[.int .i64 a00, .string a01] 33)).cell? ⟨w.heap.size, 1, none⟩ = some (.string a01) by constructor <;> simp [go_sem])
  by_cases hs : a01.size ≤ 1048576
  · have H1 := hid (szNet_on a00 a01 hs)
    have h0 : decide ((1048576 : Int) - (a01.size : Int) < 0) = false := by simp; omega
    have h1 : decide ((1048576 : Int) < (a01.size : Int)) = false := by simp; omega
    by_cases ht : (len1 : Int) ≤ 1048576 - (a01.size : Int)
    · have h2 : decide ((1048576 : Int) - (a01.size : Int) - (len1 : Int) < 0) = false := by simp; omega
      have hl : len1 ≤ 1048576 := by omega
      have HLT := hid hl
      obtain ⟨n0, n1⟩ := HN0.out
      have HS := AllLt.start w; have hn2 := lt2; have hn3 := lt3; have hn4 := lt4; go_enter Tryd.func4, Tryd.ntmps4
      go_wp2_with fail
      (with_reducible refine (H1.out _).mono ?_)
      rintro e wa ⟨rfl, hb⟩
      have n2 := (hb.cell (p := ⟨w.heap.size, 0, none⟩) (by simp)).trans n0
      have n3 := (hb.cell (p := ⟨w.heap.size, 1, none⟩) (by simp)).trans n1
      have HBa := hid (HB0.out.trans (hb.mono (by simp)))
      have hza : w.heap.size < wa.heap.size := by have := hb.size; simp at this; omega
      clear hb n0 n1
      go_wp2_with fail
      (with_reducible refine (szIv_at _ _ _ _ ht (by omega) _).mono ?_)
      rintro e _ ⟨rfl, rfl⟩
      go_wp2_with fail
      (with_reducible refine (toNet_any _ _ _).mono ?_)
      rintro e wb ⟨rfl, hb⟩
      have n4 := (hb.cell (p := ⟨w.heap.size, 0, none⟩) hza).trans n2
      have n5 := (hb.cell (p := ⟨w.heap.size, 1, none⟩) hza).trans n3
      have hzb : w.heap.size < wb.heap.size := Nat.lt_of_lt_of_le hza hb.size
      have HBb := hid (HBa.out.trans (hb.mono HBa.out.size))
      clear hb n2 n3
      go_wp2_with fail
      (with_reducible refine (toIv_any _ _ _ F1 T1 hl _ (HA.out.below HBb.out)).mono ?_)
      rintro e wc ⟨b1, rfl, hb1, hr1, hf1, hb⟩
      have n6 := (hb.cell (p := ⟨w.heap.size, 0, none⟩) hzb).trans n4
      have n7 := (hb.cell (p := ⟨w.heap.size, 1, none⟩) hzb).trans n5
      have hzc : w.heap.size < wc.heap.size := Nat.lt_of_lt_of_le hzb hb.size
      have HBc := hid (HBb.out.trans (hb.mono HBb.out.size))
      have HRc := hid hr1
      clear hb hb1 hf1 hr1 n4 n5
      go_wp2_with fail
      (with_reducible refine (sNetHolds_any b1 len1 len1 F1 T1 a00 a01 _ hl (Nat.le_refl _) HRc.out).mono ?_)
      rintro e wd ⟨rfl, hb⟩
      have n8 := (hb.cell (p := ⟨w.heap.size, 0, none⟩) hzc).trans n6
      have n9 := (hb.cell (p := ⟨w.heap.size, 1, none⟩) hzc).trans n7
      have hzd : w.heap.size < wd.heap.size := Nat.lt_of_lt_of_le hzc hb.size
      have HBd := hid (HBc.out.trans (hb.mono HBc.out.size))
      clear hb n6 n7 HRc
      go_wp2_with fail
      (with_reducible refine (toIv_any _ _ _ F1 T1 hl _ (HA.out.below HBd.out)).mono ?_)
      rintro e we ⟨bx, rfl, hb1, hr1, hf1, hb⟩
      have p0 := (hb.cell (p := ⟨w.heap.size, 0, none⟩) hzd).trans n8
      have p1 := (hb.cell (p := ⟨w.heap.size, 1, none⟩) hzd).trans n9
      have hze : w.heap.size < we.heap.size := Nat.lt_of_lt_of_le hzd hb.size
      have HBe := hid (HBd.out.trans (hb.mono HBd.out.size))
      have HRe := hid hr1
      clear hb hb1 hf1 hr1 n8 n9
      go_wp2_with fail
      (with_reducible refine (toNet_any _ _ _).mono ?_)
      rintro e wf ⟨rfl, hb⟩
      have HBf := hid (HBe.out.trans (hb.mono HBe.out.size))
      have HRf := hid (HRe.out.below hb)
      clear hb p0 p1 HRe
      go_wp2_with fail
      (with_reducible refine (iNetHolds_any bx len1 len1 F1 T1 a00 a01 _ hl (Nat.le_refl _) HRf.out (HT.out.below HBf.out)).mono ?_)
      rintro e wg ⟨rfl, hb⟩
      have HBg := hid (HBf.out.trans (hb.mono HBf.out.size))
      have HRg := hid (HRf.out.below hb)
      clear hb HRf
      generalize hldB len1 F1 T1 a00 a01 = val
      go_wp2_with fail
      (with_reducible refine (toIv_any _ _ _ F1 T1 hl _ (HA.out.below HBg.out)).mono ?_)
      rintro e wh ⟨by1, rfl, hb1, hr1, hf1, hb⟩
      have HBh := hid (HBg.out.trans (hb.mono HBg.out.size))
      have HRh := hid (HRg.out.below hb)
      have HRn := hid hr1
      clear hb hb1 hf1 hr1 HRg
      go_wp2_with fail
      (with_reducible refine (eqIv_same _ _ len1 F1 T1 _ (by omega) (HRh.out.si (Nat.le_refl _)) (HRn.out.si (Nat.le_refl _))).mono ?_)
      rintro e wk ⟨rfl, hb⟩
      have HBk := hid (HBh.out.trans (hb.mono HBh.out.size))
      clear hb
      go_wp2
      go_ret
      exact ⟨rfl, HBk.out⟩
    · obtain ⟨n0, n1⟩ := HN0.out
      have HS := AllLt.start w; have hn2 := lt2; have hn3 := lt3; have hn4 := lt4; go_enter Tryd.func4, Tryd.ntmps4
      go_wp2_with fail
      (with_reducible refine (H1.out _).mono ?_)
      rintro e wa ⟨rfl, hb⟩
      have HBa := hid (HB0.out.trans (hb.mono (by simp)))
      clear hb n0 n1
      go_wp2_with fail
      (with_reducible refine (szIv_out _ _ _ _ (by omega) HA.out.len (by omega) (by omega) _).mono ?_)
      rintro e _ ⟨rfl, rfl⟩
      go_wp2
      go_ret
      exact ⟨rfl, HBa.out⟩
  · have H1 := hid (szNet_off a00 a01 hs w01)
    obtain ⟨n0, n1⟩ := HN0.out
    have HS := AllLt.start w; have hn2 := lt2; have hn3 := lt3; have hn4 := lt4; go_enter Tryd.func4, Tryd.ntmps4
    go_wp2_with fail
    (with_reducible refine (H1.out _).mono ?_)
    rintro e wa ⟨rfl, hb⟩
    have HBa := hid (HB0.out.trans (hb.mono (by simp)))
    clear hb n0 n1
    go_wp2
    go_ret
    exact ⟨rfl, HBa.out⟩
end Go.Proofs.YtnogdjmciekieaaDoor.C
