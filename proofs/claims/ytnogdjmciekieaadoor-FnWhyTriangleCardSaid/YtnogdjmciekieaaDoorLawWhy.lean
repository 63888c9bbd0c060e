/- Which third node leaves less: the plain law. -/
import Derived.Test.YtnogdjmciekieaaDoorDrwR
import Derived.Test.YtnogdjmciekieaaDoorCloM
import Derived.Test.YtnogdjmciekieaaDoorCloS
namespace Go.Proofs.YtnogdjmciekieaaDoor.C
open Go.RowKit
set_option linter.unusedVariables false
set_option linter.unusedSimpArgs false
set_option maxRecDepth 100000 in
theorem DrawWhyTriangle_any (a : Option Addr) (len cap : Nat) (zs : List Int) (w : World) (h : IsRow .u8 w a len cap zs) :
    Calls Tryd.prog 21 #[.slice a len cap] w (OutN2 w) := by
  have HB0 := hid ((Below.refl w.heap.size w).alloc (Nat.le_refl _) (.cells #[.int .i64 0, .string ⟨#[]⟩] 25))
  have HK0 := hid (Nk.made w 0 ⟨#[]⟩)
  have HI := hid (h.below HB0.out)
  clear h
  have HS := AllLt.start w; go_enter Tryd.func21, Tryd.ntmps21
  go_wp2_with fail
  refine (DrawRelIn_any _ _ _ _ _ HI.out).mono ?_
  rintro e w1 ⟨z, s, i, k, hz, hi, hk, rfl, hb⟩
  have HZ := hid (And.intro hz (And.intro hi hk))
  have HK1 := hid (HK0.out.below hb HK0.out.lt)
  have HB1 := hid (HB0.out.trans (hb.mono HB0.out.size))
  clear hz hi hk hb
  have r0 := HK1.out.c0
  have r1 := HK1.out.c1
  have rf0 := HK1.out.fr 0
  have rf1 := HK1.out.fr 1
  go_wp2_with fail
  refine bodyPost_ret (by simp [results, Tryd.results21, go_sem, *]; try rfl) rfl ?_
  exact ⟨z, s, i, k, HZ.out.1, HZ.out.2.1, HZ.out.2.2, rfl, (HB1.out.setCell (p := ⟨w.heap.size, 0, none⟩) (Nat.le_refl _) _).setCell (p := ⟨w.heap.size, 1, none⟩) (Nat.le_refl _) _⟩
/-- what a third node leaves of a pair, as the first one that leaves less is told -/
theorem why_facts {n : Nat} {R : Nat → Nat → Nat} (h : OkR n R) {i k : Nat} (hi : i < n) (hk : k < n) :
    (whyI n (netS n R) i k = -1 ∧ ∀ b, b < n → triN R i k b = R i k) ∨ ∃ m : Nat, m < n ∧ whyI n (netS n R) i k = (m : Int) ∧ (∀ b, b < m → triN R i k b = R i k) ∧ triN R i k m ≠ R i k := by
  rw [whyI_in h hi hk]
  cases e : whyO R i k n with
  | none =>
    left
    refine ⟨rfl, ?_⟩
    have : whyB R i k n = false := by unfold whyB; rw [e]; rfl
    exact whyB_stb.1 this
  | some m =>
    right
    unfold whyO at e
    have h1 := List.find?_some e
    have h2 := List.mem_of_find?_eq_some e
    refine ⟨m, List.mem_range.1 h2, rfl, fun b hb => ?_, ?_⟩
    · have h3 := (List.find?_range_eq_some.1 e).2.2 b hb
      simpa [whyP] using h3
    · simpa [whyP] using h1
set_option maxHeartbeats 2000000 in
set_option maxRecDepth 100000 in
theorem walk_FnWhyTriangle (a0 : Option Addr) (len0 cap0 : Nat) (z0 : List Int) (w : World) (w0 : IsRow .u8 w a0 len0 cap0 z0) (hB : TB w) :
    Calls Tryd.prog 6 #[.slice a0 len0 cap0] w fun e w' => e = .returned (.bool true) ∧ Below w.heap.size w w' := by
  have HT := hid hB
  clear hB
  by_cases hl : len0 ≤ 1048576
  · have hd : decide ((1048576 : Int) < (len0 : Int)) = false := by simp; omega
    have HS := AllLt.start w; go_enter Tryd.func6, Tryd.ntmps6
    go_wp2_with fail
    refine (DrawWhyTriangle_any _ _ _ _ _ w0).mono ?_
    rintro e wa ⟨z, s, i, k, hz, hi, hk, rfl, hb⟩
    have HB0 := hid (hb.alloc hb.size (.cells #[.int .i64 z, .string s] 25))
    have HN0 := hid (Nk.made wa z s)
    have HZ := hid (And.intro hz (And.intro hi hk))
    clear hz hi hk hb w0 HS
    have n0 := HN0.out.c0
    have n1 := HN0.out.c1
    go_wp2_with fail
    generalize hwb : wa.alloc (.cells #[.int .i64 z, .string s] 25) = wb at *
    clear hwb
    have HS := AllLt.start wb
    (with_reducible refine (iWhyTriangle_any _ _ _ _ _ (HT.out.below HB0.out)).mono ?_)
    rintro e wc ⟨rfl, hb⟩
    have HN1 := hid (HN0.out.below hb HN0.out.lt)
    have HB1 := hid (HB0.out.trans (hb.mono HB0.out.size))
    clear hb n0 n1 HS
    have n0 := HN1.out.c0
    have n1 := HN1.out.c1
    go_wp2_with fail
    (with_reducible refine (sWhyTriangle_any _ _ _ _ _).mono ?_)
    rintro e wd ⟨rfl, hb⟩
    have HN2 := hid (HN1.out.below hb HN1.out.lt)
    have HB2 := hid (HB1.out.trans (hb.mono HB1.out.size))
    clear hb n0 n1 HN1 HN0 HB1 HB0
    have n0 := HN2.out.c0
    have n1 := HN2.out.c1
    rcases nodB_cases z s i k with hnd | ⟨n, R, i, k, hR, hi, hk, rfl, rfl, rfl, rfl⟩
    · have hv : whyI z s i k = -2 := whyI_off (by unfold nodB at hnd; exact hnd)
      have HV := hid hv
      rw [hv]
      clear hnd hv
      go_wp2_with fail
      (with_reducible refine (sWhyTriangle_any _ _ _ _ _).mono ?_)
      rintro e we ⟨rfl, hb⟩
      rw [HV.out]
      have HB3 := hid (HB2.out.trans (hb.mono HB2.out.size))
      clear hb n0 n1
      go_wp2
      go_ret
      exact ⟨rfl, HB3.out⟩
    · have HW := hid (why_facts hR hi hk)
      have HTR := hid (fun b (hb : b < n) => triI_in hR hi hk hb)
      have hrr := rinI_in hR hi hk
      have HRR := hid hrr
      have h6 := hR.le
      clear hrr HZ
      generalize whyI n (netS n R) i k = v at *
      generalize netS n R = s at *
      have HVV := hid (show v < (n : Int) ∧ v ≠ -2 ∧ -1 ≤ v by
        rcases HW.out with ⟨rfl, _⟩ | ⟨m, hm, rfl, _⟩
        · omega
        · omega)
      have hv2 : (v == -2) = false := by rw [beq_eq_false_iff_ne]; exact HVV.out.2.1
      have hv3 : (v != v) = false := by simp
      go_wp2_with fail
      clear n0 n1 hv2 hv3
      go_loopw [7] (fun a wr => ∃ b : Nat, b ≤ n ∧ a = .int .i64 b ∧ Hid (Nk wr wa.heap.size n s) ∧ Hid (Below w.heap.size w wr)) (fun a _ => n - (intOf a).toNat)
      case atStart => exact ⟨0, by omega, rfl, HN2, HB2⟩
      case round =>
        obtain ⟨b, hb, rfl, HN, HB⟩ := hrel
        (try clear HS)
        clear HN2 HB2
        obtain ⟨wi, rfl⟩ : ∃ wi : World, wi = wr := ⟨_, rfl⟩
        have n0 := HN.out.c0
        by_cases hbn : b < n
        · have hdb : decide ((b : Int) < (n : Int)) = true := by simp; omega
          have n1 := HN.out.c1
          have zn := HN.out.lt
          have HC1 := hid (iTriangleRel_any (n : Int) s (i : Int) (k : Int) (b : Int))
          rw [HTR.out b hbn] at HC1
          have HC2 := hid (iRelIn_any (n : Int) s (i : Int) (k : Int))
          rw [HRR.out] at HC2
          have HTi := hid (HT.out.below HB.out)
          obtain ⟨c1, hc1⟩ : ∃ c : Bool, c = (((triN R i k b : Nat) : Int) != ((R i k : Nat) : Int)) := ⟨_, rfl⟩
          have HC := hid hc1.symm
          have hcond : (((v == -1) && c1) || ((decide (0 ≤ v) && decide ((b : Int) < v)) && c1) || (((b : Int) == v) && !c1)) = false := by
            rw [hc1]
            rcases HW.out with ⟨rfl, hx⟩ | ⟨m, hm, rfl, hx, hy⟩
            · have := hx b hbn
              rw [this]; simp <;> omega
            · rcases Nat.lt_trichotomy b m with hlt | heq | hgt
              · rw [hx b hlt]; simp <;> omega
              · subst heq
                have : (((triN R i k b : Nat) : Int) != ((R i k : Nat) : Int)) = true := by rw [bne_iff_ne]; omega
                rw [this]; simp <;> omega
              · have q1 : ((m : Int) == -1) = false := by rw [beq_eq_false_iff_ne]; omega
                have q2 : decide ((b : Int) < (m : Int)) = false := by simp <;> omega
                have q3 : ((b : Int) == (m : Int)) = false := by rw [beq_eq_false_iff_ne]; omega
                rw [q1, q2, q3]; simp
          clear hc1
          generalize triN R i k b = t at *
          generalize R i k = r at *
          go_wp2_with fail
          go_region_held3 (fun wx => wx.cell? ⟨wa.heap.size, 0, none⟩ = some (.int .i64 (n : Int)) ∧ wx.cell? ⟨wa.heap.size, 1, none⟩ = some (.string s))
            (first | exact ⟨n0, n1⟩ | exact ⟨by rw [HX.cell (p := ⟨wa.heap.size, 0, none⟩) zn]; exact n0, by rw [HX.cell (p := ⟨wa.heap.size, 1, none⟩) zn]; exact n1⟩ | go_keep)
            (first | (go_at_call 24; (with_reducible refine (HC1.out _ (HTi.out.below (by go_grown))).mono ?_); rintro e w' ⟨rfl, hb⟩; obtain ⟨HX, hz0, hz, hcx, hfx⟩ := bst (w0 := wi) (by go_grown) hb; clear hb hz0 hz hcx hfx) | (go_at_call 25; (with_reducible refine (HC2.out _ (HTi.out.below (by go_grown))).mono ?_); rintro e w' ⟨rfl, hb⟩; obtain ⟨HX, hz0, hz, hcx, hfx⟩ := bst (w0 := wi) (by go_grown) hb; clear hb hz0 hz hcx hfx) | fail)
          all_goals
            have HY := hid (HB.out.trans (HX.mono HB.out.size))
            have HNY := hid (HN.out.below HX zn)
            clear HX n0 n1
            rw [HC.out]
            have q : v = -1 ∨ 0 ≤ v := by have := HVV.out.2.2; omega
            cases c1
            · rcases q with rfl | q
              · have e1 : ((b : Int) == -1) = false := by rw [beq_eq_false_iff_ne]; omega
                clear hcond
                go_wp2_with fail
                go_roundw
                case rel => exact ⟨b + 1, by omega, by go_num, HNY, HY⟩
                case measure => simp [intOf]; omega
              · have e1 : (v == -1) = false := by rw [beq_eq_false_iff_ne]; omega
                have e2 : decide (0 ≤ v) = true := decide_eq_true q
                have e3 : ((b : Int) == v) = false := by simpa using hcond
                clear hcond
                cases e4 : decide ((b : Int) < v)
                · go_wp2_with fail
                  go_roundw
                  case rel => exact ⟨b + 1, by omega, by go_num, HNY, HY⟩
                  case measure => simp [intOf]; omega
                · go_wp2_with fail
                  go_roundw
                  case rel => exact ⟨b + 1, by omega, by go_num, HNY, HY⟩
                  case measure => simp [intOf]; omega
            · rcases q with rfl | q
              · exfalso; simp at hcond
              · have e1 : (v == -1) = false := by rw [beq_eq_false_iff_ne]; omega
                have e2 : decide (0 ≤ v) = true := decide_eq_true q
                have e4 : decide ((b : Int) < v) = false := by
                  rw [e1, e2] at hcond; simpa using hcond
                clear hcond
                cases e3 : ((b : Int) == v)
                · go_wp2_with fail
                  go_roundw
                  case rel => exact ⟨b + 1, by omega, by go_num, HNY, HY⟩
                  case measure => simp [intOf]; omega
                · go_wp2_with fail
                  go_roundw
                  case rel => exact ⟨b + 1, by omega, by go_num, HNY, HY⟩
                  case measure => simp [intOf]; omega
        · obtain rfl : b = n := by omega
          have hdb : decide ((b : Int) < (b : Int)) = false := by simp
          have hlt := decide_eq_true HVV.out.1
          go_wp2_with fail
          go_ret
          exact ⟨rfl, HB.out⟩
  · have hd : decide ((1048576 : Int) < (len0 : Int)) = true := by simp; omega
    have HS := AllLt.start w; go_enter Tryd.func6, Tryd.ntmps6
    go_wp2
    go_ret
    exact ⟨rfl, Below.refl _ _⟩
end Go.Proofs.YtnogdjmciekieaaDoor.C
