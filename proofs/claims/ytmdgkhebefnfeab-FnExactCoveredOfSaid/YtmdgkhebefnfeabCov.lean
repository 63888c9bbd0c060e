/- CoveredOf: the program, the model, the exact law. -/
import Derived.Test.YtmdgkhebefnfeabMst
import Derived.BigQuiet
namespace Go.Proofs.Ytmdgkhebefnfeab.C
open Go.RowKit
set_option linter.unusedVariables false
set_option linter.unusedSimpArgs false
def covF (F T : Nat → Int) (n : Nat) (h : Nat → Int) : Nat → Int
  | 0 => 0
  | i + 1 => covF F T n h i + (if 0 < bcn F T n (h i) then h (i + 1) - h i else 0)
theorem covF_in {F T : Nat → Int} {n : Nat} {h : Nat → Int} {m : Nat} (hb : ∀ j, j < m → -1000000 ≤ h j ∧ h j ≤ 1000000) : ∀ i, i < m → -2000000 * (i : Int) ≤ covF F T n h i ∧ covF F T n h i ≤ 2000000 * (i : Int)
  | 0, _ => by simp [covF]
  | i + 1, hi => by
    have ih := covF_in (F := F) (T := T) (n := n) hb i (by omega)
    have h1 := hb i (by omega)
    have h2 := hb (i + 1) hi
    unfold covF
    split <;> push_cast <;> omega
theorem covF_congr {F T : Nat → Int} {n : Nat} {h g : Nat → Int} {m : Nat} (hb : ∀ j, j < m → h j = g j) : ∀ i, i < m → covF F T n h i = covF F T n g i
  | 0, _ => rfl
  | i + 1, hi => by
    unfold covF
    rw [covF_congr hb i (by omega), hb i (by omega), hb (i + 1) hi]
theorem ends_in {F T : Nat → Int} {n : Nat} {h : Nat → Int} {k : Nat} (D : Ded (enF F T) (2 * n) h k) (hp : plV n F T = true) : ∀ j, j < k → -1000000 ≤ h j ∧ h j ≤ 1000000 := by
  intro j hj
  have h1 : In (enF F T) (2 * n) (h j) := (D.mem _).1 ⟨j, hj, rfl⟩
  obtain ⟨i, hi, e⟩ := h1
  have h2 := (iv_iff _ _).1 ((plV_iff.1 hp).2 (i / 2) (by omega))
  rw [← e]
  unfold enF
  split <;> omega
theorem ends_pos {F T : Nat → Int} {n : Nat} {h : Nat → Int} {k : Nat} (D : Ded (enF F T) (2 * n) h k) (hp : plV n F T = true) : 0 < k := by
  have h1 := (plV_iff.1 hp).1.1
  obtain ⟨j, hj, _⟩ : In h k (enF F T 0) := (D.mem _).2 ⟨0, by omega, rfl⟩
  omega
/-- the different ends exist as a row -/
def EndR (F T : Nat → Int) (n : Nat) (h : Nat → Int) (k : Nat) : Prop := srt (fstZ (enF F T) (2 * n)) = fstZ h k ∧ 0 < k ∧ k ≤ 12 ∧ ∀ j, j < k → -1000000 ≤ h j ∧ h j ≤ 1000000
def covV (F T : Nat → Int) (n : Nat) : Int := covF F T n (fun j => (srt (fstZ (enF F T) (2 * n))).getD j 0) ((srt (fstZ (enF F T) (2 * n))).length - 1)
theorem covV_eq {F T : Nat → Int} {n : Nat} {h : Nat → Int} {k : Nat} (e : srt (fstZ (enF F T) (2 * n)) = fstZ h k) (hk : 0 < k) : covV F T n = covF F T n h (k - 1) := by
  unfold covV
  rw [e, fstZ_len]
  exact covF_congr (m := k) (fun j hj => fstZ_at h k hj) _ (by omega)
theorem iCov_off (b cap n : Nat) (F T : Nat → Int) (w : World) (hn : n ≤ 4611686018427387904) (h1 : n ≤ cap) (hR : Rv w b n F T) (h : plV n F T = false) :
    Calls Try.prog 18 #[.slice (some ⟨b, 0, none⟩) n cap] w fun e w' => e = .returned (.int .i64 (-1)) ∧ Below w.heap.size w w' := by
  have HI := hid (plan_off b cap n F T w hn h1 hR h)
  clear hR h
  have HS := AllLt.start w; go_enter Try.func18, Try.ntmps18
  go_wp2_with fail
  (with_reducible refine HI.out.mono ?_)
  rintro e w2 ⟨rfl, hb⟩
  have HB := hid (hb.alloc hb.size (.cells #[.slice none 0 0, .slice none 0 0, .nilFunc] 52))
  clear hb HI
  go_wp2_with fail
  go_ret
  exact ⟨rfl, HB.out⟩
set_option maxHeartbeats 2000000 in
theorem iCov_on (b cap n : Nat) (F T : Nat → Int) (w : World) (h1 : n ≤ cap) (hR : Rv w b n F T) (h : plV n F T = true) :
    Calls Try.prog 18 #[.slice (some ⟨b, 0, none⟩) n cap] w fun e w' => e = .returned (.int .i64 (covV F T n)) ∧ Below w.heap.size w w' := by
  have HI := hid (plan_cap b cap n F T w h1 hR h)
  have h6 := (plV_iff.1 h).1.2
  have HR := hid hR
  have HPL := hid h
  clear hR h
  have HS := AllLt.start w; go_enter Try.func18, Try.ntmps18
  go_wp2_with fail
  (with_reducible refine HI.out.mono ?_)
  rintro e w2 ⟨g, cg, q, k, cq, hh, rfl, ⟨hD, hkc⟩, hq, hS, hb⟩
  have hk0 := ends_pos hD HPL.out
  have HK := hid (covV_eq (ded_srt hD) hk0)
  have HIN := hid (ends_in hD HPL.out)
  have HCI := hid (covF_in (F := F) (T := T) (n := n) (ends_in hD HPL.out))
  have hk12 : k ≤ 2 * n := hD.le
  obtain ⟨O, hO⟩ : ∃ O : Obj, O = (.cells #[.slice (some ⟨g, 0, none⟩) (2 * n) cg, .slice (some ⟨q, 0, none⟩) k cq, .func (.func 56) #[] #[]] 52 (0, 0)) := ⟨_, rfl⟩
  have HB := hid (hb.alloc hb.size O)
  have HSx := hid (hS.below ((Below.refl w2.heap.size w2).alloc (Nat.le_refl _) O))
  have HT1 := hid (show (w2.alloc O).cell? ⟨w2.heap.size, 1, none⟩ = some (.slice (some ⟨q, 0, none⟩) k cq) by subst hO; exact (Tv.made w2 _ _).c.2.1)
  have HTL := hid (show w2.heap.size < (w2.alloc O).heap.size by simp)
  rw [hO] at HB HSx HT1 HTL
  have t1 := HT1.out
  obtain ⟨p, rfl⟩ : ∃ p, k = p + 1 := ⟨k - 1, by omega⟩
  have z0 : (1 : Int) ≤ ((p + 1 : Nat) : Int) := by omega
  have z1 : ((p + 1 : Nat) : Int) ≤ (cq : Int) := by omega
  have z2 : 1 ≤ p + 1 := by omega
  have z3 : 1 ≤ cq := by omega
  have HC := hid HSx.out.c
  have HQ := hid HSx.out.lt
  clear hb HI hD hS hO HSx
  obtain ⟨ad, had, HDC⟩ : ∃ ad, (if cq = 1 then some (⟨q, 0, none⟩ : Addr) else some ⟨q, 1, none⟩) = some ad ∧ Hid (∀ W : World, Below (w2.alloc (.cells #[.slice (some ⟨g, 0, none⟩) (2 * n) cg, .slice (some ⟨q, 0, none⟩) (p + 1) cq, .func (.func 56) #[] #[]] 52)).heap.size (w2.alloc (.cells #[.slice (some ⟨g, 0, none⟩) (2 * n) cg, .slice (some ⟨q, 0, none⟩) (p + 1) cq, .func (.func 56) #[] #[]] 52)) W → ∀ j, j < p → W.cell? (ad.add j) = some (.int .i64 (hh (j + 1)))) := by
    by_cases hca : cq = 1
    · exact ⟨⟨q, 0, none⟩, by rw [if_pos hca], hid fun W hW j hj => by omega⟩
    · refine ⟨⟨q, 1, none⟩, by rw [if_neg hca], hid fun W hW j hj => ?_⟩
      have ha : (⟨q, 1, none⟩ : Addr).add j = ⟨q, j + 1, none⟩ := by unfold Addr.add; split <;> simp_all [Nat.add_comm]
      rw [ha]
      exact (hW.cell (p := ⟨q, j + 1, none⟩) HQ.out).trans (HC.out (j + 1) (by omega))
  go_wp2_with fail
  generalize w2.alloc (.cells #[.slice (some ⟨g, 0, none⟩) (2 * n) cg, .slice (some ⟨q, 0, none⟩) (p + 1) cq, .func (.func 56) #[] #[]] 52) = w3 at *
  clear t1 had
  go_loopw [20, 5] (fun a v wr => ∃ i : Nat, i ≤ p ∧ a = .int .i64 (i : Int) ∧ v = .int .i64 (covF F T n hh i) ∧ Hid (Below w3.heap.size w3 wr)) (fun a _ _ => p - (intOf a).toNat)
  case atStart => exact ⟨0, by omega, rfl, rfl, hid (Below.refl _ _)⟩
  case round =>
    obtain ⟨i, hi, rfl, rfl, HX⟩ := hrel
    (try clear HS)
    obtain ⟨wi, rfl⟩ : ∃ wi : World, wi = wr := ⟨_, rfl⟩
    by_cases hik : i < p
    · have hdi : decide ((i : Int) < (p : Int)) = true := by simp; omega
      have hdj : decide (i < p) = true := by simp; omega
      have hdk : decide (i < p + 1) = true := by simp; omega
      have hdl : (i : Int) < ((p + 1 : Nat) : Int) := by omega
      have hc0 := (HX.out.cell (p := ⟨q, i, none⟩) HQ.out).trans (HC.out i (by omega))
      have hc1 := HDC.out wi HX.out i hik
      have t1 := (HX.out.cell (p := ⟨w2.heap.size, 1, none⟩) HTL.out).trans HT1.out
      have HW := hid (HB.out.trans (HX.out.mono HB.out.size))
      have HBA := hid (iBusyAt_on b cap n F T (hh i) wi h1 (HR.out.below HW.out) HPL.out)
      have HM := hid (show covF F T n hh (i + 1) = covF F T n hh i + (if 0 < (bsyL F T (hh i) n).length then hh (i + 1) - hh i else 0) from rfl)
      have hx1 := HIN.out i (by omega)
      have hy1 := HIN.out (i + 1) (by omega)
      have hm1 := HCI.out i (by omega)
      generalize (bsyL F T (hh i) n).length = c at HBA HM
      generalize covF F T n hh i = m at *
      generalize hh (i + 1) = y at *
      generalize hh i = x at *
      have u1 : IntKind.i64.wrap (y - x) = y - x := IntWalk.i64_in _ (by omega)
      have u2 : IntKind.i64.wrap (m + (y - x)) = m + (y - x) := IntWalk.i64_in _ (by omega)
      have u3 : wrap64 (y - x) = y - x := IntWalk.wrap64_in _ (by omega)
      have u4 : wrap64 (m + (y - x)) = m + (y - x) := IntWalk.wrap64_in _ (by omega)
      go_wp2_with fail
      (with_reducible refine HBA.out.mono ?_)
      rintro e w5 ⟨v5, rfl, hn5⟩
      have HX5 := hid (HX.out.trans (hn5.1.mono HX.out.size))
      obtain ⟨a5, c5, rfl⟩ : ∃ a c', v5 = .slice a c c' := by
        rcases hn5.2 with ⟨h0, a, c', e⟩ | ⟨bb, cc, e, _⟩
        · exact ⟨a, c', by rw [e, h0]⟩
        · exact ⟨_, cc, e⟩
      clear hn5 hc0 hc1 t1 HBA
      by_cases hcc : 0 < c
      · have hcd : decide ((0 : Int) < (c : Int)) = true := by simp; omega
        have HM2 := hid (show covF F T n hh (i + 1) = m + (y - x) by rw [HM.out, if_pos hcc])
        go_wp2_with fail
        go_roundw
        case rel => exact ⟨i + 1, by omega, by go_num, by rw [HM2.out], HX5⟩
        case measure => simp [intOf]; omega
      · have hcd : decide ((0 : Int) < (c : Int)) = false := by simp; omega
        have HM2 := hid (show covF F T n hh (i + 1) = m by rw [HM.out, if_neg hcc]; omega)
        go_wp2_with fail
        go_roundw
        case rel => exact ⟨i + 1, by omega, by go_num, by rw [HM2.out], HX5⟩
        case measure => simp [intOf]; omega
    · obtain rfl : i = p := by omega
      have hdi : decide ((i : Int) < (i : Int)) = false := by simp
      have HK2 := hid (show covV F T n = covF F T n hh i from HK.out)
      go_wp2_with fail
      go_ret
      exact ⟨by rw [HK2.out]; rfl, HB.out.trans (HX.out.mono HB.out.size)⟩
theorem srt_in {F T : Nat → Int} {n : Nat} (hp : plV n F T = true) : ∀ j, j < (srt (fstZ (enF F T) (2 * n))).length → -1000000 ≤ (srt (fstZ (enF F T) (2 * n))).getD j 0 ∧ (srt (fstZ (enF F T) (2 * n))).getD j 0 ≤ 1000000 := by
  intro j hj
  have h1 : (srt (fstZ (enF F T) (2 * n))).getD j 0 ∈ srt (fstZ (enF F T) (2 * n)) := by
    rw [List.getD_eq_getElem?_getD, List.getElem?_eq_getElem hj]
    exact List.getElem_mem hj
  rw [srt_mem] at h1
  generalize (srt (fstZ (enF F T) (2 * n))).getD j 0 = z at *
  simp only [fstZ, List.mem_map, List.mem_range] at h1
  obtain ⟨i, hi, e⟩ := h1
  have h2 := (iv_iff _ _).1 ((plV_iff.1 hp).2 (i / 2) (by omega))
  rw [← e]
  unfold enF
  split <;> omega
theorem srt_pos {F T : Nat → Int} {n : Nat} (hp : plV n F T = true) : 0 < (srt (fstZ (enF F T) (2 * n))).length := by
  have h1 := (plV_iff.1 hp).1.1
  exact List.length_pos_of_mem (srt_hit (enF F T) (show 0 < 2 * n by omega))
theorem sCov_off (b cap n : Nat) (F T : Nat → Int) (w : World) (hn : n ≤ 4611686018427387904) (h1 : n ≤ cap) (hR : Rv w b n F T) (h : plV n F T = false) :
    Calls Try.prog 17 #[.slice (some ⟨b, 0, none⟩) n cap] w fun e w' => e = .returned (.int .i64 (-1)) ∧ Below w.heap.size w w' := by
  have HI := hid (l5All_any b cap n F T w hn h1 hR)
  rw [h] at HI
  clear hR h
  have HS := AllLt.start w; go_enter Try.func17, Try.ntmps17
  go_wp2_with fail
  (with_reducible refine HI.out.mono ?_)
  rintro e w2 ⟨rfl, hb⟩
  have HB := hid hb
  clear hb HI
  go_wp2_with fail
  go_ret
  exact ⟨rfl, HB.out⟩
set_option maxHeartbeats 2000000 in
set_option maxRecDepth 100000 in
theorem sCov_on (b cap n : Nat) (F T : Nat → Int) (w : World) (h1 : n ≤ cap) (hR : Rv w b n F T) (h : plV n F T = true) :
    Calls Try.prog 17 #[.slice (some ⟨b, 0, none⟩) n cap] w fun e w' => e = .returned (.int .i64 (covV F T n)) ∧ Below w.heap.size w w' := by
  have h6 := (plV_iff.1 h).1.2
  have HI := hid (l5All_any b cap n F T w (by omega) h1 hR)
  have HIN := hid (srt_in h)
  have HCI := hid (covF_in (F := F) (T := T) (n := n) (srt_in h))
  have hps := srt_pos h
  have hl12 : (srt (fstZ (enF F T) (2 * n))).length ≤ 2 * n := by have := srt_len (fstZ (enF F T) (2 * n)); rw [fstZ_len] at this; exact this
  have HCV := hid (show covV F T n = covF F T n (fun j => (srt (fstZ (enF F T) (2 * n))).getD j 0) ((srt (fstZ (enF F T) (2 * n))).length - 1) from rfl)
  rw [h] at HI
  have HR := hid hR
  clear hR h
  have HS := AllLt.start w; go_enter Try.func17, Try.ntmps17
  go_wp2_with fail
  (with_reducible refine HI.out.mono ?_)
  rintro e w2 ⟨rfl, hb⟩
  have HE := hid (l8Ends_any b cap n F T w2 h1 h6 (HR.out.below hb))
  have HB := hid hb
  clear hb HI
  go_wp2_with fail
  (with_reducible refine HE.out.mono ?_)
  rintro e w3 ⟨v, rfl, hv, hb⟩
  have HS3 := hid (l1Sort_any (2 * n) (enF F T) (by omega) v w3 hv)
  have HB3 := hid (HB.out.trans (hb.mono HB.out.size))
  clear hb hv HE
  go_wp2_with fail
  (with_reducible refine HS3.out.mono ?_)
  rintro e w4 ⟨⟨g, c, rfl, hso⟩, hb⟩
  have HB4 := hid (HB3.out.trans (hb.mono HB3.out.size))
  have HSO := hid hso
  clear hb HS3 hso
  generalize srt (fstZ (enF F T) (2 * n)) = l at *
  obtain ⟨L, hL⟩ : ∃ L, L = l.length := ⟨_, rfl⟩
  have HLL := hid hL
  rw [← hL] at hps hl12 HCV HIN HCI ⊢
  clear hL
  go_wp2_with fail
  go_loopw [5, 4] (fun a v wr => ∃ i : Nat, i + 1 ≤ L ∧ a = .int .i64 (i : Int) ∧ v = .int .i64 (covF F T n (fun j => l.getD j 0) i) ∧ Hid (Below w4.heap.size w4 wr)) (fun a _ _ => L - (intOf a).toNat)
  case atStart => exact ⟨0, by omega, rfl, rfl, hid (Below.refl _ _)⟩
  case round =>
    obtain ⟨i, hi, rfl, rfl, HX⟩ := hrel
    (try clear HS)
    obtain ⟨wi, rfl⟩ : ∃ wi : World, wi = wr := ⟨_, rfl⟩
    have ui : IntKind.i64.wrap ((i : Int) + 1) = (i : Int) + 1 := IntWalk.i64_in _ (by omega)
    have ui' : wrap64 ((i : Int) + 1) = (i : Int) + 1 := IntWalk.wrap64_in _ (by omega)
    by_cases hik : i + 1 < L
    · have hdi : decide ((i : Int) + 1 < (L : Int)) = true := by simp; omega
      have hd0 : decide (i < L) = true := by simp; omega
      have hd1 : decide (i + 1 < L) = true := by simp; omega
      have i0 : (i : Int) < (L : Int) := by omega
      have i1 : (i : Int) + 1 < (L : Int) := by omega
      have i2 : (0 : Int) ≤ (i : Int) + 1 := by omega
      have i3 : ((i : Int) + 1).toNat = i + 1 := by omega
      have i4 : (0 : Int) ≤ (i : Int) := by omega
      have uj : IntKind.i64.wrap (i : Int) = (i : Int) := IntWalk.i64_in _ (by omega)
      have HCL := hid (fun (W : World) (hW : Below w4.heap.size w4 W) => And.intro ((HSO.out.below hW).at (j := i) (by rw [← HLL.out]; omega)) ((HSO.out.below hW).at (j := i + 1) (by rw [← HLL.out]; omega)))
      have HBA := hid (fun hW => l8Busy_any b cap n F T (l.getD i 0) wi h6 h1 (HR.out.below hW))
      have HW := hid (HB4.out.trans (HX.out.mono HB4.out.size))
      have HM := hid (show covF F T n (fun j => l.getD j 0) (i + 1) = covF F T n (fun j => l.getD j 0) i + (if 0 < (bsyL F T (l.getD i 0) n).length then l.getD (i + 1) 0 - l.getD i 0 else 0) from rfl)
      have hx1 := HIN.out i (by omega)
      have hy1 := HIN.out (i + 1) (by omega)
      have hm1 := HCI.out i (by omega)
      generalize (bsyL F T (l.getD i 0) n).length = cc at HBA HM
      generalize covF F T n (fun j => l.getD j 0) i = m at *
      generalize l.getD (i + 1) 0 = y at *
      generalize l.getD i 0 = x at *
      have u1 : IntKind.i64.wrap (m + y) = m + y := IntWalk.i64_in _ (by omega)
      have u2 : IntKind.i64.wrap (m + y - x) = m + y - x := IntWalk.i64_in _ (by omega)
      have ux : IntKind.i64.wrap x = x := IntWalk.i64_in _ (by omega)
      have uy : IntKind.i64.wrap y = y := IntWalk.i64_in _ (by omega)
      have um : IntKind.i64.wrap m = m := IntWalk.i64_in _ (by omega)
      have hc0 := (HCL.out wi HX.out).1
      go_wp2_with fail
      (with_reducible refine (HBA.out HW.out).mono ?_)
      rintro e w5 ⟨v5, rfl, hn5⟩
      have HX5 := hid (HX.out.trans (hn5.1.mono HX.out.size))
      obtain ⟨a5, c5, rfl⟩ : ∃ a c', v5 = .slice a cc c' := by
        rcases hn5.2 with ⟨h0, a, c', e⟩ | ⟨bb, cd, e, _⟩
        · exact ⟨a, c', by rw [e, h0]⟩
        · exact ⟨_, cd, e⟩
      clear hn5 hc0 HBA
      by_cases hcc : 0 < cc
      · have hcd : decide ((0 : Int) < (cc : Int)) = true := by simp; omega
        have HM2 := hid (show covF F T n (fun j => l.getD j 0) (i + 1) = m + y - x by rw [HM.out, if_pos hcc]; omega)
        have hc0 := (HCL.out w5 HX5.out).1
        have hc1 := (HCL.out w5 HX5.out).2
        go_wp2_with fail
        go_quiet (fail)
        have HX6 := hid (HX5.out.trans ((below_drewN w4.heap.size w5 nq)))
        go_wp2
        go_roundw
        case rel => exact ⟨i + 1, by omega, by go_num, by rw [HM2.out], HX6⟩
        case measure => simp [intOf]; omega
      · have hcd : decide ((0 : Int) < (cc : Int)) = false := by simp; omega
        have HM2 := hid (show covF F T n (fun j => l.getD j 0) (i + 1) = m by rw [HM.out, if_neg hcc]; omega)
        go_wp2_with fail
        go_roundw
        case rel => exact ⟨i + 1, by omega, by go_num, by rw [HM2.out], HX5⟩
        case measure => simp [intOf]; omega
    · have hdi : decide ((i : Int) + 1 < (L : Int)) = false := by simp; omega
      have hfin := hid (show covF F T n (fun j => l.getD j 0) i = covV F T n by rw [HCV.out, show L - 1 = i by omega])
      rw [hfin.out]
      go_wp2_with fail
      go_ret
      exact ⟨rfl, HB4.out.trans (HX.out.mono HB4.out.size)⟩
theorem cov_both (len : Nat) (F T : Nat → Int) (hl : len ≤ 1048576) : ∃ x : Int, (∀ w b, Rv w b len F T → Calls Try.prog 17 #[.slice (some ⟨b, 0, none⟩) len len] w (cntP x w)) ∧
    ∀ w b, Rv w b len F T → Calls Try.prog 18 #[.slice (some ⟨b, 0, none⟩) len len] w (cntP x w) := by
  cases h : plV len F T
  · exact ⟨-1, fun w b hR => sCov_off b len len F T w (by omega) (Nat.le_refl _) hR h, fun w b hR => iCov_off b len len F T w (by omega) (Nat.le_refl _) hR h⟩
  · exact ⟨_, fun w b hR => sCov_on b len len F T w (Nat.le_refl _) hR h, fun w b hR => iCov_on b len len F T w (Nat.le_refl _) hR h⟩
set_option maxHeartbeats 1000000 in
theorem walk_FnExactCoveredOf (a0 : Option Addr) (len0 cap0 : Nat) (F0 T0 : Nat → Int) (w : World) (w0 : Row2 w a0 len0 cap0 F0 T0) :
    Calls Try.prog 5 #[.slice a0 len0 cap0] w fun e w' => e = .returned (.bool true) ∧ Below w.heap.size w w' := by
  by_cases hl : len0 ≤ 1048576
  · have hd : ¬ (1048576 - (len0 : Int) < 0) := by omega
    have HA := hid w0
    clear w0
    obtain ⟨x, hS, hI⟩ := cov_both len0 F0 T0 hl
    have HSp := hid hS
    have HIm := hid hI
    clear hS hI
    have hq : (x != x) = false := by simp
    have HS := AllLt.start w; go_enter Try.func5, Try.ntmps5
    go_wp2_with fail
    (with_reducible refine (szIv_on _ _ _ hl _).mono ?_)
    rintro e _ ⟨rfl, rfl⟩
    go_wp2_with fail
    (with_reducible refine (toIv_any _ _ _ F0 T0 hl _ HA.out).mono ?_)
    rintro e wa ⟨b1, rfl, hb1, hr1, hf1, hB1⟩
    have HR1 := hid hr1
    have HB1 := hid hB1
    clear hr1 hf1 hB1 hb1
    go_wp2_with fail
    (with_reducible refine (HSp.out _ _ HR1.out).mono ?_)
    rintro e wb ⟨rfl, hb⟩
    have HB2 := hid (HB1.out.trans (hb.mono HB1.out.size))
    clear hb HR1 HB1
    go_wp2_with fail
    (with_reducible refine (toIv_any _ _ _ F0 T0 hl _ (HA.out.below HB2.out)).mono ?_)
    rintro e wc ⟨bx, rfl, hbx, hrx, hfx, hB3⟩
    have HRX := hid hrx
    have HB3 := hid (HB2.out.trans (hB3.mono HB2.out.size))
    clear hrx hfx hbx hB3
    go_wp2_with fail
    (with_reducible refine (HIm.out _ _ HRX.out).mono ?_)
    rintro e wd ⟨rfl, hb⟩
    have HR4 := hid (HRX.out.below hb)
    have HB4 := hid (HB3.out.trans (hb.mono HB3.out.size))
    clear hb HRX
    go_wp2_with fail
    (with_reducible refine (toIv_any _ _ _ F0 T0 hl _ (HA.out.below HB4.out)).mono ?_)
    rintro e we ⟨b5, rfl, hb5, hr5, hf5, hB5⟩
    have HR5 := hid (HR4.out.below hB5)
    have HN5 := hid hr5
    have HB5 := hid (HB4.out.trans (hB5.mono HB4.out.size))
    clear hb5 hr5 hf5 hB5 HR4
    go_wp2_with fail
    (with_reducible refine (eqIv_same _ _ len0 F0 T0 _ (by omega) (HR5.out.si (Nat.le_refl _)) (HN5.out.si (Nat.le_refl _))).mono ?_)
    rintro e wf ⟨rfl, hB6⟩
    have HB6 := hid (HB5.out.trans (hB6.mono HB5.out.size))
    clear hB6
    go_wp2
    go_ret
    exact ⟨rfl, HB6.out⟩
  · have HA := hid w0
    clear w0
    have HS := AllLt.start w; go_enter Try.func5, Try.ntmps5
    go_wp2_with fail
    (with_reducible refine (szIv_off _ _ _ hl HA.out.len _).mono ?_)
    rintro e _ ⟨rfl, rfl⟩
    go_wp2
    go_ret
    exact ⟨rfl, Below.refl _ _⟩
end Go.Proofs.Ytmdgkhebefnfeab.C
