/- The networks of intervals: the exact laws. -/
import Derived.Test.YtnogdjmciekieaaDoorNos
namespace Go.Proofs.YtnogdjmciekieaaDoor.C
open Go.RowKit
set_option linter.unusedVariables false
set_option linter.unusedSimpArgs false
theorem nov_both (len : Nat) (F T : Nat → Int) (hl : len ≤ 1048576) : ∃ (z : Int) (s : ByteArray) (ok : Bool), (∀ w b, Rv w b len F T → Calls Tryd.prog 8 #[.slice (some ⟨b, 0, none⟩) len len] w fun e w' => e = .returned (.tuple #[.agg #[.int .i64 z, .string s], .bool ok]) ∧ Below w.heap.size w w') ∧
    ∀ w b, Rv w b len F T → TB w → Calls Tryd.prog 10 #[.slice (some ⟨b, 0, none⟩) len len] w fun e w' => e = .returned (.tuple #[.agg #[.int .i64 z, .string s], .bool ok]) ∧ Below w.heap.size w w' := by
  cases h : plV len F T
  · refine ⟨0, ⟨#[]⟩, false, fun w b hR => ?_, fun w b hR hT => ?_⟩
    · have key : ∀ w', Below w.heap.size w w' → Calls Tryd.prog 26 #[.slice (some ⟨b, 0, none⟩) len len] w' fun e w'' => e = .returned (.bool false) ∧ Below w'.heap.size w' w'' := fun w' hb => by
        have := l5All_any b len len F T w' (by omega) (Nat.le_refl _) (hR.below hb)
        rw [h] at this; exact this
      exact sNetOf_off' _ w fun w' hb => key w' hb
    · by_cases hn : 1 ≤ len ∧ len ≤ 6
      · have ha : alV len F T = false := by
          unfold plV at h
          rw [decide_eq_true hn, Bool.true_and] at h; exact h
        exact iNetOf_bad b len len F T w (Nat.le_refl _) hR hn ha
      · exact iNetOf_size _ _ len len rfl hn w
  · exact ⟨_, _, true, fun w b hR => sNetOf_on b len len F T w (Nat.le_refl _) hR h, fun w b hR hT => iNetOf_yes b len len F T w (Nat.le_refl _) hR h hT⟩
set_option maxHeartbeats 2000000 in
set_option maxRecDepth 100000 in
theorem walk_FnExactNetOf (a0 : Option Addr) (len0 cap0 : Nat) (F0 T0 : Nat → Int) (w : World) (w0 : Row2 w a0 len0 cap0 F0 T0) (hB : TB w) :
    Calls Tryd.prog 3 #[.slice a0 len0 cap0] w fun e w' => e = .returned (.bool true) ∧ Below w.heap.size w w' := by
  have HT := hid hB
  clear hB
  by_cases hl : len0 ≤ 1048576
  · have hd : ¬ (1048576 - (len0 : Int) < 0) := by omega
    have HA := hid w0
    clear w0
    obtain ⟨z, s, ok, hS, hI⟩ := nov_both len0 F0 T0 hl
    have HSp := hid hS
    have HIm := hid hI
    clear hS hI
    have HS := AllLt.start w; have hn2 := lt2; have hn3 := lt3; have hn4 := lt4; go_enter Tryd.func3, Tryd.ntmps3
    go_wp2_with fail
    (with_reducible refine (szIv_on _ _ _ hl _).mono ?_)
    rintro e _ ⟨rfl, rfl⟩
    go_wp2_with fail
    (with_reducible refine (toIv_any _ _ _ F0 T0 hl _ HA.out).mono ?_)
    rintro e wa ⟨b1, rfl, hb1, hr1, hf1, hB1⟩
    have HR1 := hid hr1
    have HB1 := hid hB1
    clear hr1 hf1 hB1 hb1
    go_wp2_with fail
    (with_reducible refine (HSp.out _ _ HR1.out).mono ?_)
    rintro e wb ⟨rfl, hb⟩
    have HB2 := hid (HB1.out.trans (hb.mono HB1.out.size))
    have HBn := hid (HB2.out.alloc HB2.out.size (.cells #[.int .i64 z, .string s] 25))
    clear hb HR1 HB1
    have HKw := hid (Nk.made wb z s)
    go_wp2_with fail
    (with_reducible refine (toIv_any _ _ _ F0 T0 hl _ (HA.out.below HBn.out)).mono ?_)
    rintro e wc ⟨bx, rfl, hbx, hrx, hfx, hB3⟩
    have HRX := hid hrx
    have HK3 := hid (HKw.out.below hB3 (by simp))
    have HB3 := hid (HBn.out.trans (hB3.mono HBn.out.size))
    clear hrx hfx hbx hB3
    go_wp2_with fail
    (with_reducible refine (HIm.out _ _ HRX.out (HT.out.below HB3.out)).mono ?_)
    rintro e wd ⟨rfl, hb⟩
    have HR4 := hid (HRX.out.below hb)
    have HK4 := hid (HK3.out.below hb HK3.out.lt)
    have HB4 := hid (HB3.out.trans (hb.mono HB3.out.size))
    clear hb
    have HKg := hid (Nk.made wd z s)
    have HK5 := hid (nk_alloc HK4.out (.cells #[.int .i64 z, .string s] 25))
    have HR5 := hid (HR4.out.below ((Below.refl _ _).alloc (Nat.le_refl _) (.cells #[.int .i64 z, .string s] 25)))
    have HB5 := hid (HB4.out.alloc HB4.out.size (.cells #[.int .i64 z, .string s] 25))
    have g0 := HKg.out.c0
    have g1 := HKg.out.c1
    have k0 := HK5.out.c0
    have k1 := HK5.out.c1
    go_wp2_with fail
    (with_reducible refine (eqNet_same _ _ _).mono ?_)
    rintro e we ⟨rfl, hb⟩
    have HR6 := hid (HR5.out.below hb)
    have HB6 := hid (HB5.out.trans (hb.mono HB5.out.size))
    clear hb g0 g1 k0 k1
    go_wp2_with fail
    (with_reducible refine (toIv_any _ _ _ F0 T0 hl _ (HA.out.below HB6.out)).mono ?_)
    rintro e wf ⟨b5, rfl, hb5, hr5, hf5, hB7⟩
    have HR7 := hid (HR6.out.below hB7)
    have HN7 := hid hr5
    have HB7 := hid (HB6.out.trans (hB7.mono HB6.out.size))
    clear hr5 hf5 hb5 hB7
    go_wp2_with fail
    (with_reducible refine (eqIv_same _ _ len0 F0 T0 _ (by omega) (HR7.out.si (Nat.le_refl _)) (HN7.out.si (Nat.le_refl _))).mono ?_)
    rintro e wg ⟨rfl, hb⟩
    have HB8 := hid (HB7.out.trans (hb.mono HB7.out.size))
    clear hb
    go_wp2
    go_ret
    exact ⟨rfl, HB8.out⟩
  · have HA := hid w0
    clear w0
    have HS := AllLt.start w; go_enter Tryd.func3, Tryd.ntmps3
    go_wp2_with fail
    (with_reducible refine (szIv_off _ _ _ hl HA.out.len _).mono ?_)
    rintro e _ ⟨rfl, rfl⟩
    go_wp2
    go_ret
    exact ⟨rfl, Below.refl _ _⟩
end Go.Proofs.YtnogdjmciekieaaDoor.C
