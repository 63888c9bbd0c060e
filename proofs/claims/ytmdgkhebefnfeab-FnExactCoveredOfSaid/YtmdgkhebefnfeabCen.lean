/- CountEnds: the program, the model, the exact law. -/
import Derived.Test.YtmdgkhebefnfeabRnk
import Derived.Test.YtmdgkhebefnfeabTlp
namespace Go.Proofs.Ytmdgkhebefnfeab.C
open Go.RowKit
set_option linter.unusedVariables false
set_option linter.unusedSimpArgs false
theorem ded_srt {f : Nat → Int} {n : Nat} {h : Nat → Int} {k : Nat} (D : Ded f n h k) : srt (fstZ f n) = fstZ h k := by
  refine asc_ext (srt_asc _) ?_ fun x => ?_
  · unfold Asc
    rw [List.pairwise_iff_getElem]
    intro i j hi hj hij
    rw [fstZ_len] at hi hj
    simpa [fstZ] using D.up i j hij hj
  · rw [srt_mem]
    have e : ∀ (g : Nat → Int) (m : Nat), x ∈ fstZ g m ↔ In g m x := fun g m => by
      unfold In
      simp [fstZ]
    rw [e, e]
    exact (D.mem x).symm
theorem fL_iv (f : Nat → Int) (m : Nat) : fL f m = ivL (fstZ f m) := by simp [fL, ivL, fstZ]
theorem two_one {y z : Int} : ∀ u ∈ [Value.int .i64 y, Value.int .i64 z], u.oneCell' = true := by
  intro u hu
  simp at hu
  rcases hu with rfl | rfl <;> rfl
theorem iCount_off (b cap n : Nat) (F T : Nat → Int) (w : World) (hn : n ≤ 4611686018427387904) (h1 : n ≤ cap) (hR : Rv w b n F T) (h : plV n F T = false) :
    Calls Try.prog 13 #[.slice (some ⟨b, 0, none⟩) n cap] w fun e w' => e = .returned (.int .i64 (-1)) ∧ Below w.heap.size w w' := by
  have HI := hid (plan_off b cap n F T w hn h1 hR h)
  clear hR h
  have HS := AllLt.start w; go_enter Try.func13, Try.ntmps13
  go_wp2_with fail
  (with_reducible refine HI.out.mono ?_)
  rintro e w2 ⟨rfl, hb⟩
  have HB := hid (hb.alloc hb.size (.cells #[.slice none 0 0, .slice none 0 0, .nilFunc] 52))
  clear hb HI
  go_wp2_with fail
  go_ret
  exact ⟨rfl, HB.out⟩
theorem iCount_on (b cap n : Nat) (F T : Nat → Int) (w : World) (h1 : n ≤ cap) (hR : Rv w b n F T) (h : plV n F T = true) :
    Calls Try.prog 13 #[.slice (some ⟨b, 0, none⟩) n cap] w fun e w' => e = .returned (.int .i64 ((srt (fstZ (enF F T) (2 * n))).length : Int)) ∧ Below w.heap.size w w' := by
  have HI := hid (plan_on b cap n F T w h1 hR h)
  have h6 := (plV_iff.1 h).1.2
  clear hR h
  have HS := AllLt.start w; go_enter Try.func13, Try.ntmps13
  go_wp2_with fail
  (with_reducible refine HI.out.mono ?_)
  rintro e w2 ⟨g, cg, q, k, cq, hh, rfl, hD, hq, hS, hb⟩
  have HK := hid (show (srt (fstZ (enF F T) (2 * n))).length = k by rw [ded_srt hD, fstZ_len])
  have HB := hid (hb.alloc hb.size (.cells #[.slice (some ⟨g, 0, none⟩) (2 * n) cg, .slice (some ⟨q, 0, none⟩) k cq, .func (.func 56) #[] #[]] 52))
  have t1 := (Tv.made w2 (.slice (some ⟨g, 0, none⟩) (2 * n) cg) (.slice (some ⟨q, 0, none⟩) k cq)).c.2.1
  clear hb HI hD hS
  go_wp2_with fail
  go_ret
  exact ⟨by rw [HK.out]; rfl, HB.out⟩
theorem enInfo : (Try.prog.info? 3).map (fun i => (i.zero, i.size, i.bytes)) = some (some (.int .i64 0), 1, 8) := by kernel_rfl
set_option maxHeartbeats 4000000 in
set_option maxRecDepth 100000 in
theorem l8Ends_any (b cap n : Nat) (F T : Nat → Int) (w : World) (h1 : n ≤ cap) (h6 : n ≤ 6) (hR : Rv w b n F T) :
    Calls Try.prog 36 #[.slice (some ⟨b, 0, none⟩) n cap] w fun e w' => ∃ v, e = .returned v ∧ SlB w' v (2 * n) (enF F T) ∧ Below w.heap.size w w' := by
  obtain ⟨i0, hi0, hz0, hz1, hz2⟩ := info_parts enInfo
  have HR := hid hR
  clear hR
  have HO2 := hid (show (w.alloc (.cells #[] 3)).ownsRow w.heap.size 3 1 (.slice (some ⟨w.heap.size, 0, none⟩) 0 0) (2 * 0) (fL (enF F T) (2 * 0)) from World.ownsRow_made (base := w.heap.size) (e := 3) (size := 1) w #[] 0 (Nat.le_refl _) (by decide) rfl)
  have HB2 := hid ((Below.refl w.heap.size w).alloc (Nat.le_refl _) (.cells #[] 3))
  have HS := AllLt.start w; go_enter Try.func36, Try.ntmps36
  go_wp2_with fail
  go_loopw [3, 4] (fun v u wr => ∃ (k : Nat) (all : Value), all = v ∧ k ≤ n ∧ u = .int .i64 k ∧ Hid (wr.ownsRow w.heap.size 3 1 all (2 * k) (fL (enF F T) (2 * k))) ∧ Hid (Below w.heap.size w wr)) (fun _ u _ => n - (intOf u).toNat)
  case atStart => exact ⟨0, _, rfl, by omega, rfl, HO2, HB2⟩
  case round =>
    obtain ⟨k, all, rfl, hk, rfl, HO, HB⟩ := hrel
    clear HS HO2 HB2
    obtain ⟨wi, rfl⟩ : ∃ wi : World, wi = wr := ⟨_, rfl⟩
    by_cases hkl : k < n
    · have hdi : decide ((k : Int) < (n : Int)) = true := by simp; omega
      have hdj : decide (k < n) = true := by simp; omega
      have i0' : (0 : Int) ≤ (k : Int) := by omega
      have i1' : (k : Int) < (n : Int) := by omega
      have hwk : IntKind.i64.wrap (k : Int) = (k : Int) := IntWalk.i64_in _ (by omega)
      obtain ⟨c0, c1⟩ := HR.out.2 k hkl
      have zb := HR.out.1
      have HL := hid (fL_two F T k)
      generalize F k = y at c0 c1 HL
      generalize T k = z at c0 c1 HL
      have hbb := HB.out
      have hbs := HB.out.size
      have d0 : wi.cell? ⟨b, k * 2, none⟩ = some (.int .i64 y) := (HB.out.cell (p := ⟨b, k * 2, none⟩) zb).trans c0
      have d1 : wi.cell? ⟨b, k * 2 + 1, none⟩ = some (.int .i64 z) := (HB.out.cell (p := ⟨b, k * 2 + 1, none⟩) zb).trans c1
      go_wp2_with fail
      go_region_held3 (fun wx => wx.cell? ⟨b, k * 2, none⟩ = some (.int .i64 y) ∧ wx.cell? ⟨b, k * 2 + 1, none⟩ = some (.int .i64 z))
        (first | exact ⟨d0, d1⟩ | exact ⟨(Below.cell (B := w.heap.size) (w := w) (p := ⟨b, k * 2, none⟩) (by (repeat' (first | (with_reducible exact Below.refl _ _) | (with_reducible refine Below.setCell ?_ ?_ _) | (with_reducible refine below_drewN' ?_ _) | (with_reducible refine below_drew' ?_) | (with_reducible refine Below.alloc ?_ ?_ _) | (with_reducible assumption) | go_size))) zb).trans c0, (Below.cell (B := w.heap.size) (w := w) (p := ⟨b, k * 2 + 1, none⟩) (by (repeat' (first | (with_reducible exact Below.refl _ _) | (with_reducible refine Below.setCell ?_ ?_ _) | (with_reducible refine below_drewN' ?_ _) | (with_reducible refine below_drew' ?_) | (with_reducible refine Below.alloc ?_ ?_ _) | (with_reducible assumption) | go_size))) zb).trans c1⟩)
        (first | (go_loud (refine step_append_lies _ (by rfl) _ _ _ (by rfl) w.heap.size 3 i0 _ 1 8 Try.underlying29 hi0 hz0 hz1 hz2 rfl (by omega) _ (2 * k) (fL (enF F T) (2 * k)) (by rfl) (own_blr HO.out (by (repeat' (first | (with_reducible exact Below.refl _ _) | (with_reducible refine Below.setCell ?_ ?_ _) | (with_reducible refine below_drewN' ?_ _) | (with_reducible refine below_drew' ?_) | (with_reducible refine Below.alloc ?_ ?_ _) | (with_reducible assumption) | go_size)))) ⟨wi.heap.size, 0, none⟩ 2 2 [.int .i64 y, .int .i64 z] (by rfl) (by rfl) (World.news_of_block (cs := #[.int .i64 y, .int .i64 z]) (t := 3) (fr := (0, 0)) (heap_alloc_new _ _)) two_one (by omega) (by unfold maxLen; omega) (by omega) (Below.size (B := w.heap.size) (w := w) (by (repeat' (first | (with_reducible exact Below.refl _ _) | (with_reducible refine Below.setCell ?_ ?_ _) | (with_reducible refine below_drewN' ?_ _) | (with_reducible refine below_drew' ?_) | (with_reducible refine Below.alloc ?_ ?_ _) | (with_reducible assumption) | go_size)))) _ rfl ?_); intro g9 cap9 w9 hown' hgrow hat hlt9; have HB9 : Below w.heap.size w w9 := Below.grown (by (repeat' (first | (with_reducible exact Below.refl _ _) | (with_reducible refine Below.setCell ?_ ?_ _) | (with_reducible refine below_drewN' ?_ _) | (with_reducible refine below_drew' ?_) | (with_reducible refine Below.alloc ?_ ?_ _) | (with_reducible assumption) | go_size))) hgrow (Below.size (B := w.heap.size) (w := w) (by (repeat' (first | (with_reducible exact Below.refl _ _) | (with_reducible refine Below.setCell ?_ ?_ _) | (with_reducible refine below_drewN' ?_ _) | (with_reducible refine below_drew' ?_) | (with_reducible refine Below.alloc ?_ ?_ _) | (with_reducible assumption) | go_size)))) (fun j hj => (HO.out.lt j hj).1); have HO9 := hid hown'; clear hown' hgrow hat hlt9) | fail)
      all_goals
        have HB10 := hid HB9
        have HO10 : Hid (w9.ownsRow w.heap.size 3 1 (.slice (some ⟨g9, 0, none⟩) (2 * k + 2) cap9) (2 * (k + 1)) (fL (enF F T) (2 * (k + 1)))) := hid (by rw [show 2 * (k + 1) = 2 * k + 2 from by omega, HL.out]; exact HO9.out)
        clear HB9 HO9 HL
        go_wp2
        go_roundw
        case rel => exact ⟨k + 1, _, rfl, by omega, by go_num, HO10, HB10⟩
        case measure => simp [intOf]; omega
    · obtain rfl : k = n := by omega
      have hdi : decide ((k : Int) < (k : Int)) = false := by simp
      have hof := HO.out
      rw [fL_iv] at hof
      have HF := hid (own_new hof HB.out)
      clear hof
      go_wp2_with fail
      go_ret
      exact ⟨_, rfl, HF.out.slB.2, HB.out⟩
theorem sCount_off (b cap n : Nat) (F T : Nat → Int) (w : World) (hn : n ≤ 4611686018427387904) (h1 : n ≤ cap) (hR : Rv w b n F T) (h : plV n F T = false) :
    Calls Try.prog 11 #[.slice (some ⟨b, 0, none⟩) n cap] w fun e w' => e = .returned (.int .i64 (-1)) ∧ Below w.heap.size w w' := by
  have HI := hid (l5All_any b cap n F T w hn h1 hR)
  rw [h] at HI
  clear hR h
  have HS := AllLt.start w; go_enter Try.func11, Try.ntmps11
  go_wp2_with fail
  (with_reducible refine HI.out.mono ?_)
  rintro e w2 ⟨rfl, hb⟩
  have HB := hid hb
  clear hb HI
  go_wp2_with fail
  go_ret
  exact ⟨rfl, HB.out⟩
theorem sCount_on (b cap n : Nat) (F T : Nat → Int) (w : World) (h1 : n ≤ cap) (hR : Rv w b n F T) (h : plV n F T = true) :
    Calls Try.prog 11 #[.slice (some ⟨b, 0, none⟩) n cap] w fun e w' => e = .returned (.int .i64 ((srt (fstZ (enF F T) (2 * n))).length : Int)) ∧ Below w.heap.size w w' := by
  have h6 := (plV_iff.1 h).1.2
  have HI := hid (l5All_any b cap n F T w (by omega) h1 hR)
  rw [h] at HI
  have HR := hid hR
  clear hR h
  have HS := AllLt.start w; go_enter Try.func11, Try.ntmps11
  go_wp2_with fail
  (with_reducible refine HI.out.mono ?_)
  rintro e w2 ⟨rfl, hb⟩
  have HE := hid (l8Ends_any b cap n F T w2 h1 h6 (HR.out.below hb))
  have HB := hid hb
  clear hb HI
  go_wp2_with fail
  (with_reducible refine HE.out.mono ?_)
  rintro e w3 ⟨v, rfl, hv, hb⟩
  have HS3 := hid (l1Sort_any (2 * n) (enF F T) (by omega) v w3 hv)
  have HB3 := hid (HB.out.trans (hb.mono HB.out.size))
  clear hb hv HE
  go_wp2_with fail
  (with_reducible refine HS3.out.mono ?_)
  rintro e w4 ⟨⟨g, c, rfl, _⟩, hb⟩
  have HB4 := hid (HB3.out.trans (hb.mono HB3.out.size))
  clear hb HS3
  go_wp2_with fail
  go_ret
  exact ⟨rfl, HB4.out⟩
def cntP (x : Int) (w : World) (e : Ending) (w' : World) : Prop := e = .returned (.int .i64 x) ∧ Below w.heap.size w w'
theorem count_both (len : Nat) (F T : Nat → Int) (hl : len ≤ 1048576) : ∃ x : Int, (∀ w b, Rv w b len F T → Calls Try.prog 11 #[.slice (some ⟨b, 0, none⟩) len len] w (cntP x w)) ∧
    ∀ w b, Rv w b len F T → Calls Try.prog 13 #[.slice (some ⟨b, 0, none⟩) len len] w (cntP x w) := by
  cases h : plV len F T
  · exact ⟨-1, fun w b hR => sCount_off b len len F T w (by omega) (Nat.le_refl _) hR h, fun w b hR => iCount_off b len len F T w (by omega) (Nat.le_refl _) hR h⟩
  · exact ⟨_, fun w b hR => sCount_on b len len F T w (Nat.le_refl _) hR h, fun w b hR => iCount_on b len len F T w (Nat.le_refl _) hR h⟩
set_option maxHeartbeats 1000000 in
theorem walk_FnExactCountEnds (a0 : Option Addr) (len0 cap0 : Nat) (F0 T0 : Nat → Int) (w : World) (w0 : Row2 w a0 len0 cap0 F0 T0) :
    Calls Try.prog 3 #[.slice a0 len0 cap0] w fun e w' => e = .returned (.bool true) ∧ Below w.heap.size w w' := by
  by_cases hl : len0 ≤ 1048576
  · have hd : ¬ (1048576 - (len0 : Int) < 0) := by omega
    have HA := hid w0
    clear w0
    obtain ⟨x, hS, hI⟩ := count_both len0 F0 T0 hl
    have HSp := hid hS
    have HIm := hid hI
    clear hS hI
    have hq : (x != x) = false := by simp
    have HS := AllLt.start w; go_enter Try.func3, Try.ntmps3
    go_wp2_with fail
    (with_reducible refine (szIv_on _ _ _ hl _).mono ?_)
    rintro e _ ⟨rfl, rfl⟩
    go_wp2_with fail
    (with_reducible refine (toIv_any _ _ _ F0 T0 hl _ HA.out).mono ?_)
    rintro e wa ⟨b1, rfl, hb1, hr1, hf1, hB1⟩
    have HR1 := hid hr1
    have HB1 := hid hB1
    clear hr1 hf1 hB1 hb1
    go_wp2_with fail
    (with_reducible refine (HSp.out _ _ HR1.out).mono ?_)
    rintro e wb ⟨rfl, hb⟩
    have HB2 := hid (HB1.out.trans (hb.mono HB1.out.size))
    clear hb HR1 HB1
    go_wp2_with fail
    (with_reducible refine (toIv_any _ _ _ F0 T0 hl _ (HA.out.below HB2.out)).mono ?_)
    rintro e wc ⟨bx, rfl, hbx, hrx, hfx, hB3⟩
    have HRX := hid hrx
    have HB3 := hid (HB2.out.trans (hB3.mono HB2.out.size))
    clear hrx hfx hbx hB3
    go_wp2_with fail
    (with_reducible refine (HIm.out _ _ HRX.out).mono ?_)
    rintro e wd ⟨rfl, hb⟩
    have HR4 := hid (HRX.out.below hb)
    have HB4 := hid (HB3.out.trans (hb.mono HB3.out.size))
    clear hb HRX
    go_wp2_with fail
    (with_reducible refine (toIv_any _ _ _ F0 T0 hl _ (HA.out.below HB4.out)).mono ?_)
    rintro e we ⟨b5, rfl, hb5, hr5, hf5, hB5⟩
    have HR5 := hid (HR4.out.below hB5)
    have HN5 := hid hr5
    have HB5 := hid (HB4.out.trans (hB5.mono HB4.out.size))
    clear hb5 hr5 hf5 hB5 HR4
    go_wp2_with fail
    (with_reducible refine (eqIv_same _ _ len0 F0 T0 _ (by omega) (HR5.out.si (Nat.le_refl _)) (HN5.out.si (Nat.le_refl _))).mono ?_)
    rintro e wf ⟨rfl, hB6⟩
    have HB6 := hid (HB5.out.trans (hB6.mono HB5.out.size))
    clear hB6
    go_wp2
    go_ret
    exact ⟨rfl, HB6.out⟩
  · have HA := hid w0
    clear w0
    have HS := AllLt.start w; go_enter Try.func3, Try.ntmps3
    go_wp2_with fail
    (with_reducible refine (szIv_off _ _ _ hl HA.out.len _).mono ?_)
    rintro e _ ⟨rfl, rfl⟩
    go_wp2
    go_ret
    exact ⟨rfl, Below.refl _ _⟩
end Go.Proofs.Ytmdgkhebefnfeab.C
