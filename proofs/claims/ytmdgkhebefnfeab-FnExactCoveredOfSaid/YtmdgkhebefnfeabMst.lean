/- MostBusy: the program, the model, the exact law. -/
import Derived.Test.YtmdgkhebefnfeabCen
import Derived.Test.YtmdgkhebefnfeabBsy
namespace Go.Proofs.Ytmdgkhebefnfeab.C
open Go.RowKit
set_option linter.unusedVariables false
set_option linter.unusedSimpArgs false
def mxF (g : Nat → Nat) : Nat → Nat
  | 0 => 0
  | k + 1 => max (mxF g k) (g k)
theorem mxF_le {g : Nat → Nat} {m : Nat} : ∀ {n : Nat}, (∀ i, i < n → g i ≤ m) → mxF g n ≤ m
  | 0, _ => Nat.zero_le _
  | n + 1, h => by
    unfold mxF
    exact Nat.max_le.2 ⟨mxF_le fun i hi => h i (by omega), h n (by omega)⟩
theorem le_mxF {g : Nat → Nat} : ∀ {n i : Nat}, i < n → g i ≤ mxF g n
  | 0, i, h => by omega
  | n + 1, i, h => by
    unfold mxF
    by_cases e : i = n
    · subst e; exact Nat.le_max_right _ _
    · exact Nat.le_trans (le_mxF (show i < n by omega)) (Nat.le_max_left _ _)
theorem top_of {P : Nat → Prop} {F : Nat → Int} : ∀ {n : Nat}, (∃ i, i < n ∧ P i) → ∃ i, i < n ∧ P i ∧ ∀ j, j < n → P j → F j ≤ F i
  | 0, h => by obtain ⟨i, hi, _⟩ := h; omega
  | n + 1, h => by
    by_cases hn : ∃ i, i < n ∧ P i
    · obtain ⟨i, hi, hp, hm⟩ := top_of (F := F) hn
      by_cases hq : P n ∧ F i < F n
      · refine ⟨n, by omega, hq.1, fun j hj hP => ?_⟩
        by_cases e : j = n
        · rw [e]; exact Int.le_refl _
        · have := hm j (by omega) hP; omega
      · refine ⟨i, by omega, hp, fun j hj hP => ?_⟩
        by_cases e : j = n
        · subst e
          by_cases h2 : F i < F j
          · exact absurd ⟨hP, h2⟩ hq
          · omega
        · exact hm j (by omega) hP
    · obtain ⟨i, hi, hp⟩ := h
      have e : i = n := by
        by_cases e : i = n
        · exact e
        · exact absurd ⟨i, by omega, hp⟩ hn
      subst e
      refine ⟨i, by omega, hp, fun j hj hP => ?_⟩
      by_cases e : j = i
      · rw [e]; exact Int.le_refl _
      · exact absurd ⟨j, by omega, hP⟩ hn
def bcn (F T : Nat → Int) (n : Nat) (x : Int) : Nat := (bsyL F T x n).length
theorem bsyL_mono {F T : Nat → Int} {n : Nat} {x y : Int} (h : ∀ i, i < n → bsyP F T x i = true → bsyP F T y i = true) : bcn F T n x ≤ bcn F T n y := by
  unfold bcn bsyL bl
  rw [← List.countP_eq_length_filter, ← List.countP_eq_length_filter]
  exact List.countP_mono_left fun i hi => h i (by simpa using hi)
theorem bcn_top {F T : Nat → Int} {n : Nat} (x : Int) : bcn F T n x ≤ mxF (fun i => bcn F T n (F i)) n := by
  by_cases hx : ∃ i, i < n ∧ bsyP F T x i = true
  · obtain ⟨i, hi, hp, hm⟩ := top_of (F := F) hx
    refine Nat.le_trans (bsyL_mono (y := F i) fun j hj hP => ?_) (le_mxF (g := fun i => bcn F T n (F i)) hi)
    have h1 := hm j hj hP
    simp only [bsyP, Bool.and_eq_true, decide_eq_true_eq] at hp hP ⊢
    omega
  · refine Nat.le_trans (bsyL_mono (y := x) (fun _ _ h => h)) ?_
    have : bcn F T n x = 0 := by
      unfold bcn bsyL bl
      rw [List.length_eq_zero_iff, List.filter_eq_nil_iff]
      intro i hi hP
      exact hx ⟨i, by simpa using hi, hP⟩
    omega
theorem most_eq {F T : Nat → Int} {n : Nat} {h : Nat → Int} {k : Nat} (D : Ded (enF F T) (2 * n) h k) : mxF (fun j => bcn F T n (h j)) k = mxF (fun i => bcn F T n (F i)) n := by
  refine Nat.le_antisymm (mxF_le fun j _ => bcn_top _) (mxF_le fun i hi => ?_)
  have hin : In h k (F i) := (D.mem _).2 (by
    unfold In
    exact ⟨2 * i, by omega, enF_0 F T i⟩)
  unfold In at hin
  obtain ⟨j, hj, e⟩ := hin
  rw [← e]
  exact le_mxF (g := fun j => bcn F T n (h j)) hj
theorem max_cast (a b : Nat) : max (a : Int) (b : Int) = ((max a b : Nat) : Int) := by omega
theorem iMost_off (b cap n : Nat) (F T : Nat → Int) (w : World) (hn : n ≤ 4611686018427387904) (h1 : n ≤ cap) (hR : Rv w b n F T) (h : plV n F T = false) :
    Calls Try.prog 16 #[.slice (some ⟨b, 0, none⟩) n cap] w fun e w' => e = .returned (.int .i64 (-1)) ∧ Below w.heap.size w w' := by
  have HI := hid (plan_off b cap n F T w hn h1 hR h)
  clear hR h
  have HS := AllLt.start w; go_enter Try.func16, Try.ntmps16
  go_wp2_with fail
  (with_reducible refine HI.out.mono ?_)
  rintro e w2 ⟨rfl, hb⟩
  have HB := hid (hb.alloc hb.size (.cells #[.slice none 0 0, .slice none 0 0, .nilFunc] 52))
  clear hb HI
  go_wp2_with fail
  go_ret
  exact ⟨rfl, HB.out⟩
set_option maxHeartbeats 2000000 in
theorem iMost_on (b cap n : Nat) (F T : Nat → Int) (w : World) (h1 : n ≤ cap) (hR : Rv w b n F T) (h : plV n F T = true) :
    Calls Try.prog 16 #[.slice (some ⟨b, 0, none⟩) n cap] w fun e w' => e = .returned (.int .i64 ((mxF (fun i => bcn F T n (F i)) n : Nat) : Int)) ∧ Below w.heap.size w w' := by
  have HI := hid (plan_on b cap n F T w h1 hR h)
  have h6 := (plV_iff.1 h).1.2
  have HR := hid hR
  have HPL := hid h
  clear hR h
  have HS := AllLt.start w; go_enter Try.func16, Try.ntmps16
  go_wp2_with fail
  (with_reducible refine HI.out.mono ?_)
  rintro e w2 ⟨g, cg, q, k, cq, hh, rfl, hD, hq, hS, hb⟩
  have HK := hid (most_eq hD)
  have hk12 : k ≤ 2 * n := hD.le
  obtain ⟨O, hO⟩ : ∃ O : Obj, O = (.cells #[.slice (some ⟨g, 0, none⟩) (2 * n) cg, .slice (some ⟨q, 0, none⟩) k cq, .func (.func 56) #[] #[]] 52 (0, 0)) := ⟨_, rfl⟩
  have HB := hid (hb.alloc hb.size O)
  have HSx := hid (hS.below ((Below.refl w2.heap.size w2).alloc (Nat.le_refl _) O))
  have t1 : (w2.alloc O).cell? ⟨w2.heap.size, 1, none⟩ = some (.slice (some ⟨q, 0, none⟩) k cq) := by subst hO; exact (Tv.made w2 _ _).c.2.1
  rw [hO] at HB HSx t1
  clear hb HI hD hS hO
  go_wp2_with fail
  generalize w2.alloc (.cells #[.slice (some ⟨g, 0, none⟩) (2 * n) cg, .slice (some ⟨q, 0, none⟩) k cq, .func (.func 56) #[] #[]] 52) = w3 at *
  have HC := hid HSx.out.c
  have HQ := hid HSx.out.lt
  clear HSx t1
  go_loopw [18, 5] (fun a v wr => ∃ i : Nat, i ≤ k ∧ a = .int .i64 (i : Int) ∧ v = .int .i64 ((mxF (fun j => bcn F T n (hh j)) i : Nat) : Int) ∧ Hid (Below w3.heap.size w3 wr)) (fun a _ _ => k - (intOf a).toNat)
  case atStart => exact ⟨0, by omega, rfl, rfl, hid (Below.refl _ _)⟩
  case round =>
    obtain ⟨i, hi, rfl, rfl, HX⟩ := hrel
    (try clear HS)
    obtain ⟨wi, rfl⟩ : ∃ wi : World, wi = wr := ⟨_, rfl⟩
    by_cases hik : i < k
    · have hdi : decide ((i : Int) < (k : Int)) = true := by simp; omega
      have hdj : decide (i < k) = true := by simp; omega
      have hc := (HX.out.cell (p := ⟨q, i, none⟩) HQ.out).trans (HC.out i hik)
      have HW := hid (HB.out.trans (HX.out.mono HB.out.size))
      have HBA := hid (iBusyAt_on b cap n F T (hh i) wi h1 (HR.out.below HW.out) HPL.out)
      have HM := hid (show mxF (fun j => bcn F T n (hh j)) (i + 1) = max (mxF (fun j => bcn F T n (hh j)) i) (bsyL F T (hh i) n).length from rfl)
      generalize (bsyL F T (hh i) n).length = c at HBA HM
      generalize mxF (fun j => bcn F T n (hh j)) i = m at *
      generalize hh i = x at *
      have hmc := max_cast m c
      go_wp2_with fail
      (with_reducible refine HBA.out.mono ?_)
      rintro e w5 ⟨v5, rfl, hn5⟩
      have HX5 := hid (HX.out.trans (hn5.1.mono HX.out.size))
      obtain ⟨a5, c5, rfl⟩ : ∃ a c', v5 = .slice a c c' := by
        rcases hn5.2 with ⟨h0, a, c', e⟩ | ⟨bb, cc, e, _⟩
        · exact ⟨a, c', by rw [e, h0]⟩
        · exact ⟨_, cc, e⟩
      clear hn5 hc HBA
      go_wp2_with fail
      go_roundw
      case rel => exact ⟨i + 1, by omega, by go_num, by first | (rw [HM.out]; done) | (rw [HM.out, ← hmc]; done) | (rw [HM.out]; simp; done), HX5⟩
      case measure => simp [intOf]; omega
    · obtain rfl : i = k := by omega
      have hdi : decide ((i : Int) < (i : Int)) = false := by simp
      rw [HK.out]
      go_wp2_with fail
      go_ret
      exact ⟨rfl, HB.out.trans (HX.out.mono HB.out.size)⟩
theorem sMost_off (b cap n : Nat) (F T : Nat → Int) (w : World) (hn : n ≤ 4611686018427387904) (h1 : n ≤ cap) (hR : Rv w b n F T) (h : plV n F T = false) :
    Calls Try.prog 15 #[.slice (some ⟨b, 0, none⟩) n cap] w fun e w' => e = .returned (.int .i64 (-1)) ∧ Below w.heap.size w w' := by
  have HI := hid (l5All_any b cap n F T w hn h1 hR)
  rw [h] at HI
  clear hR h
  have HS := AllLt.start w; go_enter Try.func15, Try.ntmps15
  go_wp2_with fail
  (with_reducible refine HI.out.mono ?_)
  rintro e w2 ⟨rfl, hb⟩
  have HB := hid hb
  clear hb HI
  go_wp2_with fail
  go_ret
  exact ⟨rfl, HB.out⟩
set_option maxHeartbeats 2000000 in
theorem sMost_on (b cap n : Nat) (F T : Nat → Int) (w : World) (h1 : n ≤ cap) (hR : Rv w b n F T) (h : plV n F T = true) :
    Calls Try.prog 15 #[.slice (some ⟨b, 0, none⟩) n cap] w fun e w' => e = .returned (.int .i64 ((mxF (fun i => bcn F T n (F i)) n : Nat) : Int)) ∧ Below w.heap.size w w' := by
  have h6 := (plV_iff.1 h).1.2
  have HI := hid (l5All_any b cap n F T w (by omega) h1 hR)
  rw [h] at HI
  have HR := hid hR
  clear hR h
  have HS := AllLt.start w; go_enter Try.func15, Try.ntmps15
  go_wp2_with fail
  (with_reducible refine HI.out.mono ?_)
  rintro e w2 ⟨rfl, hb⟩
  have HB := hid hb
  clear hb HI
  go_wp2_with fail
  go_loopw [4, 3] (fun a v wr => ∃ i : Nat, i ≤ n ∧ a = .int .i64 (i : Int) ∧ v = .int .i64 ((mxF (fun j => bcn F T n (F j)) i : Nat) : Int) ∧ Hid (Below w.heap.size w wr)) (fun a _ _ => n - (intOf a).toNat)
  case atStart => exact ⟨0, by omega, rfl, rfl, HB⟩
  case round =>
    obtain ⟨i, hi, rfl, rfl, HX⟩ := hrel
    (try clear HS)
    obtain ⟨wi, rfl⟩ : ∃ wi : World, wi = wr := ⟨_, rfl⟩
    by_cases hik : i < n
    · have hdi : decide ((i : Int) < (n : Int)) = true := by simp; omega
      have hdj : decide (i < n) = true := by simp; omega
      obtain ⟨c0, c1⟩ := (HR.out.below HX.out).2 i hik
      have HBA := hid (l8Busy_any b cap n F T (F i) wi h6 h1 (HR.out.below HX.out))
      have HM := hid (show mxF (fun j => bcn F T n (F j)) (i + 1) = max (mxF (fun j => bcn F T n (F j)) i) (bsyL F T (F i) n).length from rfl)
      generalize (bsyL F T (F i) n).length = c at HBA HM
      generalize mxF (fun j => bcn F T n (F j)) i = m at *
      have hmc := max_cast m c
      obtain ⟨x, hx⟩ : ∃ x, x = F i := ⟨_, rfl⟩
      rw [← hx] at c0 HBA
      clear hx
      go_wp2_with fail
      (with_reducible refine HBA.out.mono ?_)
      rintro e w5 ⟨v5, rfl, hn5⟩
      have HX5 := hid (HX.out.trans (hn5.1.mono HX.out.size))
      obtain ⟨a5, c5, rfl⟩ : ∃ a c', v5 = .slice a c c' := by
        rcases hn5.2 with ⟨h0, a, c', e⟩ | ⟨bb, cc, e, _⟩
        · exact ⟨a, c', by rw [e, h0]⟩
        · exact ⟨_, cc, e⟩
      clear hn5 c0 c1 HBA
      go_wp2_with fail
      go_roundw
      case rel => exact ⟨i + 1, by omega, by go_num, by first | (rw [HM.out]; done) | (rw [HM.out, ← hmc]; done) | (rw [HM.out]; simp; done), HX5⟩
      case measure => simp [intOf]; omega
    · obtain rfl : i = n := by omega
      have hdi : decide ((i : Int) < (i : Int)) = false := by simp
      go_wp2_with fail
      go_ret
      exact ⟨rfl, HX.out⟩
theorem most_both (len : Nat) (F T : Nat → Int) (hl : len ≤ 1048576) : ∃ x : Int, (∀ w b, Rv w b len F T → Calls Try.prog 15 #[.slice (some ⟨b, 0, none⟩) len len] w (cntP x w)) ∧
    ∀ w b, Rv w b len F T → Calls Try.prog 16 #[.slice (some ⟨b, 0, none⟩) len len] w (cntP x w) := by
  cases h : plV len F T
  · exact ⟨-1, fun w b hR => sMost_off b len len F T w (by omega) (Nat.le_refl _) hR h, fun w b hR => iMost_off b len len F T w (by omega) (Nat.le_refl _) hR h⟩
  · exact ⟨_, fun w b hR => sMost_on b len len F T w (Nat.le_refl _) hR h, fun w b hR => iMost_on b len len F T w (Nat.le_refl _) hR h⟩
set_option maxHeartbeats 1000000 in
theorem walk_FnExactMostBusy (a0 : Option Addr) (len0 cap0 : Nat) (F0 T0 : Nat → Int) (w : World) (w0 : Row2 w a0 len0 cap0 F0 T0) :
    Calls Try.prog 4 #[.slice a0 len0 cap0] w fun e w' => e = .returned (.bool true) ∧ Below w.heap.size w w' := by
  by_cases hl : len0 ≤ 1048576
  · have hd : ¬ (1048576 - (len0 : Int) < 0) := by omega
    have HA := hid w0
    clear w0
    obtain ⟨x, hS, hI⟩ := most_both len0 F0 T0 hl
    have HSp := hid hS
    have HIm := hid hI
    clear hS hI
    have hq : (x != x) = false := by simp
    have HS := AllLt.start w; go_enter Try.func4, Try.ntmps4
    go_wp2_with fail
    (with_reducible refine (szIv_on _ _ _ hl _).mono ?_)
    rintro e _ ⟨rfl, rfl⟩
    go_wp2_with fail
    (with_reducible refine (toIv_any _ _ _ F0 T0 hl _ HA.out).mono ?_)
    rintro e wa ⟨b1, rfl, hb1, hr1, hf1, hB1⟩
    have HR1 := hid hr1
    have HB1 := hid hB1
    clear hr1 hf1 hB1 hb1
    go_wp2_with fail
    (with_reducible refine (HSp.out _ _ HR1.out).mono ?_)
    rintro e wb ⟨rfl, hb⟩
    have HB2 := hid (HB1.out.trans (hb.mono HB1.out.size))
    clear hb HR1 HB1
    go_wp2_with fail
    (with_reducible refine (toIv_any _ _ _ F0 T0 hl _ (HA.out.below HB2.out)).mono ?_)
    rintro e wc ⟨bx, rfl, hbx, hrx, hfx, hB3⟩
    have HRX := hid hrx
    have HB3 := hid (HB2.out.trans (hB3.mono HB2.out.size))
    clear hrx hfx hbx hB3
    go_wp2_with fail
    (with_reducible refine (HIm.out _ _ HRX.out).mono ?_)
    rintro e wd ⟨rfl, hb⟩
    have HR4 := hid (HRX.out.below hb)
    have HB4 := hid (HB3.out.trans (hb.mono HB3.out.size))
    clear hb HRX
    go_wp2_with fail
    (with_reducible refine (toIv_any _ _ _ F0 T0 hl _ (HA.out.below HB4.out)).mono ?_)
    rintro e we ⟨b5, rfl, hb5, hr5, hf5, hB5⟩
    have HR5 := hid (HR4.out.below hB5)
    have HN5 := hid hr5
    have HB5 := hid (HB4.out.trans (hB5.mono HB4.out.size))
    clear hb5 hr5 hf5 hB5 HR4
    go_wp2_with fail
    (with_reducible refine (eqIv_same _ _ len0 F0 T0 _ (by omega) (HR5.out.si (Nat.le_refl _)) (HN5.out.si (Nat.le_refl _))).mono ?_)
    rintro e wf ⟨rfl, hB6⟩
    have HB6 := hid (HB5.out.trans (hB6.mono HB5.out.size))
    clear hB6
    go_wp2
    go_ret
    exact ⟨rfl, HB6.out⟩
  · have HA := hid w0
    clear w0
    have HS := AllLt.start w; go_enter Try.func4, Try.ntmps4
    go_wp2_with fail
    (with_reducible refine (szIv_off _ _ _ hl HA.out.len _).mono ?_)
    rintro e _ ⟨rfl, rfl⟩
    go_wp2
    go_ret
    exact ⟨rfl, Below.refl _ _⟩
end Go.Proofs.Ytmdgkhebefnfeab.C
