/- The interval of all intervals: the exact law. -/
import Derived.Test.YtnogdjmciekieaaSps
namespace Go.Proofs.Ytnogdjmciekieaa.C
open Go.RowKit
set_option linter.unusedVariables false
set_option linter.unusedSimpArgs false
def spP (x y : Int) (ok : Bool) (w : World) (e : Ending) (w' : World) : Prop := e = .returned (.tuple #[.agg #[.int .i64 x, .int .i64 y], .bool ok]) ∧ Below w.heap.size w w'
theorem span_both (len : Nat) (F T : Nat → Int) (hl : len ≤ 1048576) : ∃ (x y : Int) (ok : Bool), (∀ w b, Rv w b len F T → Calls Try.prog 25 #[.slice (some ⟨b, 0, none⟩) len len] w (spP x y ok w)) ∧
    ∀ w b, Rv w b len F T → Calls Try.prog 26 #[.slice (some ⟨b, 0, none⟩) len len] w (spP x y ok w) := by
  cases h : plV len F T
  · exact ⟨0, 0, false, fun w b hR => sSpan_off b len len F T w (by omega) (Nat.le_refl _) hR h, fun w b hR => iSpan_off b len len F T w (by omega) (Nat.le_refl _) hR h⟩
  · obtain ⟨⟨g1, _⟩, _⟩ := plV_iff.1 h
    obtain ⟨n, rfl⟩ : ∃ n, len = n + 1 := ⟨len - 1, by omega⟩
    exact ⟨_, _, true, fun w b hR => sSpan_on b (n + 1) n F T w (Nat.le_refl _) hR h, fun w b hR => iSpan_on b (n + 1) n F T w (Nat.le_refl _) hR h⟩
set_option maxHeartbeats 1000000 in
theorem walk_FnExactSpanOf (a0 : Option Addr) (len0 cap0 : Nat) (F0 T0 : Nat → Int) (w : World) (w0 : Row2 w a0 len0 cap0 F0 T0) :
    Calls Try.prog 6 #[.slice a0 len0 cap0] w fun e w' => e = .returned (.bool true) ∧ Below w.heap.size w w' := by
  by_cases hl : len0 ≤ 1048576
  · have hd : ¬ (1048576 - (len0 : Int) < 0) := by omega
    have HA := hid w0
    clear w0
    obtain ⟨x, y, ok, hS, hI⟩ := span_both len0 F0 T0 hl
    have HSp := hid hS
    have HIm := hid hI
    clear hS hI
    have HS := AllLt.start w; go_enter Try.func6, Try.ntmps6
    go_wp2_with fail
    (with_reducible refine (szIv_on _ _ _ hl _).mono ?_)
    rintro e _ ⟨rfl, rfl⟩
    go_wp2_with fail
    (with_reducible refine (toIv_any _ _ _ F0 T0 hl _ HA.out).mono ?_)
    rintro e wa ⟨b1, rfl, hb1, hr1, hf1, hB1⟩
    have HR1 := hid hr1
    have HB1 := hid hB1
    clear hr1 hf1 hB1 hb1
    go_wp2_with fail
    (with_reducible refine (HSp.out _ _ HR1.out).mono ?_)
    rintro e wb ⟨rfl, hb⟩
    have HB2 := hid ((HB1.out.trans (hb.mono HB1.out.size)).alloc (Nat.le_trans HB1.out.size hb.size) (.cells #[.int .i64 x, .int .i64 y] 38))
    have hn1 := heap_alloc_new wb (.cells #[.int .i64 x, .int .i64 y] 38)
    have hl1 : wb.heap.size < (wb.alloc (.cells #[.int .i64 x, .int .i64 y] 38)).heap.size := by simp
    clear hb HR1 HB1
    go_wp2_with fail
    generalize hwq : wb.alloc (.cells #[.int .i64 x, .int .i64 y] 38) = wq at *
    generalize wb.heap.size = g1 at *
    clear hwq
    have HN1 := hid hn1
    have HL1 := hid hl1
    clear hn1 hl1
    (with_reducible refine (toIv_any _ _ _ F0 T0 hl _ (HA.out.below HB2.out)).mono ?_)
    rintro e wc ⟨bx, rfl, hbx, hrx, hfx, hB3⟩
    have HRX := hid hrx
    have HN3 := hid ((hB3.block _ HL1.out).trans HN1.out)
    have HL3 := hid (Nat.lt_of_lt_of_le HL1.out hB3.size)
    have HB3 := hid (HB2.out.trans (hB3.mono HB2.out.size))
    clear hrx hfx hbx hB3 HN1 HL1
    go_wp2_with fail
    (with_reducible refine (HIm.out _ _ HRX.out).mono ?_)
    rintro e wd ⟨rfl, hb⟩
    have HB4 := hid ((HB3.out.trans (hb.mono HB3.out.size)).alloc (Nat.le_trans HB3.out.size hb.size) (.cells #[.int .i64 x, .int .i64 y] 38))
    have HB34 := hid (hb.alloc hb.size (.cells #[.int .i64 x, .int .i64 y] 38))
    have hn2 := heap_alloc_new wd (.cells #[.int .i64 x, .int .i64 y] 38)
    have hn1 := (HB34.out.block _ HL3.out).trans HN3.out
    have HR4 := hid (HRX.out.below HB34.out)
    clear hb HRX HB34
    have c0 : (wd.alloc (.cells #[.int .i64 x, .int .i64 y] 38)).cell? ⟨g1, 0, none⟩ = some (.int .i64 x) := by rw [cell_of_row _ _ _ _ _ _ hn1]; rfl
    have c1 : (wd.alloc (.cells #[.int .i64 x, .int .i64 y] 38)).cell? ⟨g1, 1, none⟩ = some (.int .i64 y) := by rw [cell_of_row _ _ _ _ _ _ hn1]; rfl
    have d0 : (wd.alloc (.cells #[.int .i64 x, .int .i64 y] 38)).cell? ⟨wd.heap.size, 0, none⟩ = some (.int .i64 x) := by rw [cell_of_row _ _ _ _ _ _ hn2]; rfl
    have d1 : (wd.alloc (.cells #[.int .i64 x, .int .i64 y] 38)).cell? ⟨wd.heap.size, 1, none⟩ = some (.int .i64 y) := by rw [cell_of_row _ _ _ _ _ _ hn2]; rfl
    clear hn1 hn2
    go_wp2_with fail
    (with_reducible refine (eqInterval_same _ _ _).mono ?_)
    rintro e wf ⟨rfl, hb⟩
    have HB5 := hid (HB4.out.trans (hb.mono HB4.out.size))
    have HR5 := hid (HR4.out.below hb)
    clear hb c0 c1 d0 d1 HR4
    have hok : (ok != ok) = false := by cases ok <;> rfl
    go_wp2_with fail
    (with_reducible refine (toIv_any _ _ _ F0 T0 hl _ (HA.out.below HB5.out)).mono ?_)
    rintro e wg ⟨b9, rfl, hb9, hr9, hf9, hB9⟩
    have HB6 := hid (HB5.out.trans (hB9.mono HB5.out.size))
    have HR6 := hid (HR5.out.below hB9)
    have HR9 := hid hr9
    clear hB9 hb9 hr9 hf9
    go_wp2_with fail
    (with_reducible refine (eqIv_same _ _ len0 F0 T0 _ (by omega) (HR6.out.si (Nat.le_refl _)) (HR9.out.si (Nat.le_refl _))).mono ?_)
    rintro e wh ⟨rfl, hb⟩
    have HB7 := hid (HB6.out.trans (hb.mono HB6.out.size))
    clear hb
    go_wp2
    go_ret
    exact ⟨rfl, HB7.out⟩
  · have HA := hid w0
    clear w0
    have HS := AllLt.start w; go_enter Try.func6, Try.ntmps6
    go_wp2_with fail
    (with_reducible refine (szIv_off _ _ _ hl HA.out.len _).mono ?_)
    rintro e _ ⟨rfl, rfl⟩
    go_wp2
    go_ret
    exact ⟨rfl, Below.refl _ _⟩
end Go.Proofs.Ytnogdjmciekieaa.C
