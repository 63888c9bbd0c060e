/- The relation of two nodes, either way: the plain law. -/
import Derived.Test.YtnogdjmciekieabDoorDrwR
import Derived.Test.YtnogdjmciekieabDoorMee
import Derived.Test.YtnogdjmciekieabDoorNetC
import Derived.Test.YtnogdjmciekieabDoorPrs
import Derived.Test.YtnogdjmciekieabDoorRelU
namespace Go.Proofs.YtnogdjmciekieabDoor.C
open Go.RowKit
set_option linter.unusedVariables false
set_option linter.unusedSimpArgs false
theorem prs_e' : (prs ⟨#[101]⟩).1 = 64 ∧ (prs ⟨#[101]⟩).2 = true := by decide +kernel
theorem wit_free {n : Nat} {R : Nat → Nat → Nat} (hR : OkR n R) : witB R (freR n) (edL n) = true := by
  unfold witB
  rw [List.all_eq_true]
  intro p hp
  have h := edL_mem.1 hp
  refine decide_eq_true ?_
  rw [freR_all (by omega) h.2 (by omega)]
  have : (8191 : Nat) = 2 ^ 13 - 1 := rfl
  rw [this, Nat.and_two_pow_sub_one_eq_mod, Nat.mod_eq_of_lt (hR.lt _ _)]
set_option maxHeartbeats 2000000 in
set_option maxRecDepth 100000 in
theorem walk_FnRelIn (a0 : Option Addr) (len0 cap0 : Nat) (z0 : List Int) (w : World) (w0 : IsRow .u8 w a0 len0 cap0 z0) (hB : TB w) :
    Calls Tryd.prog 3 #[.slice a0 len0 cap0] w fun e w' => e = .returned (.bool true) ∧ Below w.heap.size w w' := by
  have HT := hid hB
  clear hB
  by_cases hl : len0 ≤ 1048576
  · have hd : decide ((1048576 : Int) < (len0 : Int)) = false := by simp; omega
    have HS := AllLt.start w; go_enter Tryd.func3, Tryd.ntmps3
    go_wp2_with fail
    refine (DrawRelIn_any _ _ _ _ _ w0).mono ?_
    rintro e wa ⟨z, s, i, k, hz, hi, hk, rfl, hb⟩
    have HB0 := hid (hb.alloc hb.size (.cells #[.int .i64 z, .string s] 24))
    have HN0 := hid (Nk.made wa z s)
    clear hz hi hk hb w0 HS
    have n0 := HN0.out.c0
    have n1 := HN0.out.c1
    go_wp2_with fail
    generalize hwb : wa.alloc (.cells #[.int .i64 z, .string s] 24) = wb at *
    clear hwb
    (with_reducible refine (iRelIn_any _ _ _ _ _ (HT.out.below HB0.out)).mono ?_)
    rintro e wc ⟨rfl, hb⟩
    have HN1 := hid (HN0.out.below hb HN0.out.lt)
    have HB1 := hid (HB0.out.trans (hb.mono HB0.out.size))
    clear hb n0 n1
    have n0 := HN1.out.c0
    have n1 := HN1.out.c1
    go_wp2_with fail
    (with_reducible refine (sRelIn_any _ _ _ _ _).mono ?_)
    rintro e wd ⟨rfl, hb⟩
    have HN2 := hid (HN1.out.below hb HN1.out.lt)
    have HB2 := hid (HB1.out.trans (hb.mono HB1.out.size))
    clear hb n0 n1 HN1 HN0 HB1 HB0
    have n0 := HN2.out.c0
    have n1 := HN2.out.c1
    rcases nodB_cases z s i k with hnd | ⟨n, R, i, k, hR, hi, hk, rfl, rfl, rfl, rfl⟩
    · have hv : rinI z s i k = -1 := rinI_off hnd
      have HV := hid hv
      rw [hv]
      clear hnd hv
      go_wp2_with fail
      (with_reducible refine (sRelIn_any _ _ _ _ _).mono ?_)
      rintro e we ⟨rfl, hb⟩
      rw [HV.out]
      have HB3 := hid (HB2.out.trans (hb.mono HB2.out.size))
      clear hb n0 n1
      go_wp2
      go_ret
      exact ⟨rfl, HB3.out⟩
    · have HR1 := hid (rinI_in hR hi hk)
      have HR2 := hid (rinI_in hR hk hi)
      have HR3 := hid (rinI_in (freR_ok hR.pos hR.le) hi hk)
      have HTU := hid (show turI ((R i k : Nat) : Int) = ((R k i : Nat) : Int) by rw [turI_n (hR.lt i k), hR.tur i k hi hk])
      have HF := hid (iFreeNet_on n hR.pos hR.le)
      have HWV := hid (show winB n (netS n R) n (netS n (freR n)) = true by rw [winB_yes hR (freR_ok hR.pos hR.le)]; exact wit_free hR)
      have HSA := hid (fun (e : i = k) => (show R i k = 64 by rw [← e]; exact hR.one i hi))
      have HDI := hid (fun (e : i ≠ k) => freR_all hi hk e)
      rw [HR1.out]
      have hr0 : decide (((R i k : Nat) : Int) < 0) = false := by simp
      have hrr : (((R i k : Nat) : Int) != ((R i k : Nat) : Int)) = false := by simp
      clear hR
      generalize netS n (freR n) = sf at *
      generalize freR n i k = fq at *
      generalize netS n R = s at *
      generalize R k i = rt at *
      generalize R i k = r at *
      go_wp2_with fail
      clear hr0 hrr
      (with_reducible refine (iParseRel_any _ _ (HT.out.below HB2.out)).mono ?_)
      rintro e we ⟨rfl, hb⟩
      rw [prs_e'.1, prs_e'.2]
      have HN3 := hid (HN2.out.below hb HN2.out.lt)
      have HB3 := hid (HB2.out.trans (hb.mono HB2.out.size))
      clear hb n0 n1 HN2 HB2
      have n0 := HN3.out.c0
      go_wp2_with fail
      (with_reducible refine (HF.out _).mono ?_)
      rintro e wf ⟨rfl, hb⟩
      have HN4 := hid (nk_alloc (HN3.out.below hb HN3.out.lt) (.cells #[.int .i64 n, .string sf] 24))
      have HM4 := hid (Nk.made wf n sf)
      have HB4 := hid ((HB3.out.trans (hb.mono HB3.out.size)).alloc (Nat.le_trans HB3.out.size hb.size) (.cells #[.int .i64 n, .string sf] 24))
      clear hb n0 HN3 HB3
      have n0 := HN4.out.c0
      have n1 := HN4.out.c1
      go_wp2_with fail
      generalize hwg : wf.alloc (.cells #[.int .i64 n, .string sf] 24) = wg at *
      clear hwg
      (with_reducible refine (iRelIn_any _ _ _ _ _ (HT.out.below HB4.out)).mono ?_)
      rintro e wh ⟨rfl, hb⟩
      rw [HR2.out]
      have HN5 := hid (HN4.out.below hb HN4.out.lt)
      have HM5 := hid (HM4.out.below hb HM4.out.lt)
      have HB5 := hid (HB4.out.trans (hb.mono HB4.out.size))
      clear hb n0 n1 HN4 HM4 HB4
      go_wp2_with fail
      (with_reducible refine (iTurnRel_any _ _ (HT.out.below HB5.out)).mono ?_)
      rintro e wk ⟨rfl, hb⟩
      rw [HTU.out]
      have HN6 := hid (HN5.out.below hb HN5.out.lt)
      have HM6 := hid (HM5.out.below hb HM5.out.lt)
      have HB6 := hid (HB5.out.trans (hb.mono HB5.out.size))
      clear hb HN5 HM5 HB5
      have q0 : ((rt : Int) == (rt : Int)) = true := by simp
      have n0 := HN6.out.c0
      have n1 := HN6.out.c1
      have m0 := HM6.out.c0
      have m1 := HM6.out.c1
      by_cases hik : i = k
      · have h64 := HSA.out hik
        have e1 : ((i : Int) != (k : Int)) = false := by rw [hik]; simp
        have e2 : ((i : Int) == (k : Int)) = true := by rw [hik]; simp
        have e3 : ((r : Int) == 64) = true := by rw [h64]; rfl
        clear h64 hik
        go_wp2_with fail
        (with_reducible refine (iWithinNet_any _ _ _ _ _ (HT.out.below HB6.out)).mono ?_)
        rintro e wl ⟨rfl, hb⟩
        rw [HWV.out]
        have HB7 := hid (HB6.out.trans (hb.mono HB6.out.size))
        clear hb n0 n1 m0 m1
        go_wp2
        go_ret
        exact ⟨rfl, HB7.out⟩
      · have hfq := HDI.out hik
        have e1 : ((i : Int) != (k : Int)) = true := by rw [bne_iff_ne]; omega
        have e2 : ((i : Int) == (k : Int)) = false := by rw [beq_eq_false_iff_ne]; omega
        have e3 : ((fq : Int) == 8191) = true := by rw [hfq]; rfl
        clear hfq hik
        go_wp2_with fail
        (with_reducible refine (iRelIn_any _ _ _ _ _ (HT.out.below HB6.out)).mono ?_)
        rintro e wl ⟨rfl, hb⟩
        rw [HR3.out]
        have HN7 := hid (HN6.out.below hb HN6.out.lt)
        have HM7 := hid (HM6.out.below hb HM6.out.lt)
        have HB7 := hid (HB6.out.trans (hb.mono HB6.out.size))
        clear hb n0 n1 m0 m1 HN6 HM6 HB6
        have n0 := HN7.out.c0
        have n1 := HN7.out.c1
        have m0 := HM7.out.c0
        have m1 := HM7.out.c1
        go_wp2_with fail
        (with_reducible refine (iWithinNet_any _ _ _ _ _ (HT.out.below HB7.out)).mono ?_)
        rintro e wm ⟨rfl, hb⟩
        rw [HWV.out]
        have HB8 := hid (HB7.out.trans (hb.mono HB7.out.size))
        clear hb n0 n1 m0 m1
        go_wp2
        go_ret
        exact ⟨rfl, HB8.out⟩
  · have hd : decide ((1048576 : Int) < (len0 : Int)) = true := by simp; omega
    have HS := AllLt.start w; go_enter Tryd.func3, Tryd.ntmps3
    go_wp2
    go_ret
    exact ⟨rfl, Below.refl _ _⟩
end Go.Proofs.YtnogdjmciekieabDoor.C
