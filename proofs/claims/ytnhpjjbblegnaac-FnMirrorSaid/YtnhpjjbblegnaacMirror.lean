/- The law of mirrored intervals. -/
import Derived.Test.YtnhpjjbblegnaacDrawTwo
import Derived.Test.YtnhpjjbblegnaacTab
import Derived.Deep.RegionHeld3
namespace Go.Proofs.Ytnhpjjbblegnaac.C
open Go.RowKit
set_option linter.unusedVariables false
set_option linter.unusedSimpArgs false
/-- An interval in a block. -/
structure IvAt (w : World) (b : Nat) (x y : Int) : Prop where
  c0 : w.cell? ⟨b, 0, none⟩ = some (.int .i64 x)
  c1 : w.cell? ⟨b, 1, none⟩ = some (.int .i64 y)
  lt : b < w.heap.size
theorem IvAt.below {w w' : World} {b : Nat} {x y : Int} (h : IvAt w b x y) (hb : Below w.heap.size w w') : IvAt w' b x y :=
  ⟨(hb.cell (p := ⟨b, 0, none⟩) h.lt).trans h.c0, (hb.cell (p := ⟨b, 1, none⟩) h.lt).trans h.c1, Nat.lt_of_lt_of_le h.lt hb.size⟩
theorem IvAt.made (w : World) (x y : Int) (t : TypeId) : IvAt (w.alloc (.cells #[.int .i64 x, .int .i64 y] t)) w.heap.size x y := ⟨by simp [go_sem], by simp [go_sem], by simp⟩
theorem mi_off {f t : Int} (h : iv f t = false) : miF f t = 0 ∧ miT f t = 0 := by simp [miF, miT, h]
theorem mi_on {f t : Int} (h : iv f t = true) : miF f t = -t ∧ miT f t = -f ∧ iv (-t) (-f) = true ∧ miF (-t) (-f) = f ∧ miT (-t) (-f) = t ∧ ilen (-t) (-f) = ilen f t := by
  have h1 := (iv_iff f t).1 h
  have h2 : iv (-t) (-f) = true := (iv_iff (-t) (-f)).2 (by omega)
  refine ⟨by simp [miF, h], by simp [miT, h], h2, by simp [miF, h2], by simp [miT, h2], ?_⟩
  rw [ilen_on h2, ilen_on h]
  omega
set_option maxHeartbeats 1000000 in
theorem walk_FnMirror (a0 : Option Addr) (len0 cap0 : Nat) (z0 : List Int) (w : World) (w0 : IsRow .u8 w a0 len0 cap0 z0) :
    Calls Try.prog 6 #[.slice a0 len0 cap0] w fun e w' => e = .returned (.bool true) ∧ Below w.heap.size w w' := by
  by_cases hl : len0 ≤ 1048576
  · have hd : decide ((1048576 : Int) < (len0 : Int)) = false := by simp; omega
    have HS := AllLt.start w; go_enter Try.func6, Try.ntmps6
    go_wp2_with fail
    refine (DrawMirrorInterval_any _ _ _ _ _ w0).mono ?_
    rintro e wa ⟨f, t, hf, ht, rfl, hb⟩
    have HBa := hid hb
    have HA0 := hid (IvAt.made wa f t 31)
    have HWa := hid ((Below.refl wa.heap.size wa).alloc (Nat.le_refl _) (.cells #[.int .i64 f, .int .i64 t] 31))
    clear w0 hb HS
    cases hv : iv f t
    · obtain ⟨m1, m2⟩ := mi_off hv
      have V := hid hv
      have M1 := hid m1
      have M2 := hid m2
      clear hv m1 m2
      go_wp2_with fail
      (with_reducible refine (iMirrorInterval_any f t _).mono ?_)
      rintro e wb ⟨rfl, hb⟩
      rw [M1.out, M2.out, V.out]
      have HA1 := hid (HA0.out.below hb)
      have HWb := hid (HWa.out.trans (hb.mono HWa.out.size))
      clear hb HA0 HWa
      have a0' := HA1.out.c0
      have a1' := HA1.out.c1
      have al := HA1.out.lt
      go_wp2_with fail
      (with_reducible refine (sMirrorInterval_any f t _).mono ?_)
      rintro e wc ⟨rfl, hb⟩
      rw [M1.out, M2.out, V.out]
      have HB1 := hid ((IvAt.made wb 0 0 31).below hb)
      have HA2 := hid ((HA1.out.below ((Below.refl _ _).alloc (Nat.le_refl _) (.cells #[.int .i64 0, .int .i64 0] 31))).below hb)
      have HWc := hid ((HWb.out.alloc HWb.out.size (.cells #[.int .i64 0, .int .i64 0] 31)).trans (hb.mono (Nat.le_trans HWb.out.size (by simp))))
      clear hb HA1 HWb a0' a1' al
      have a0' := HA2.out.c0
      have a1' := HA2.out.c1
      have al := HA2.out.lt
      have b0' := HB1.out.c0
      have b1' := HB1.out.c1
      have bl' := HB1.out.lt
      have e1 : ¬ wb.heap.size = wc.heap.size := by omega
      have e2 : ¬ wa.heap.size = wc.heap.size := by omega
      go_wp2_with (first | (go_at_call 20; (with_reducible refine (iIntervalValid_any f t _).mono ?_); rintro e w' ⟨rfl, hb⟩; rw [V.out]))
      go_ret
      exact ⟨rfl, HBa.out.trans (Below.mono (HWc.out.trans (Below.mono (show Below wc.heap.size wc _ from ((Below.refl _ _).alloc (Nat.le_refl _) _).trans (hb.mono (by simp))) HWc.out.size)) HBa.out.size)⟩
    · obtain ⟨m1, m2, m3, m4, m5, m6⟩ := mi_on hv
      have V := hid hv
      have M1 := hid m1
      have M2 := hid m2
      have V2 := hid m3
      have M3 := hid m4
      have M4 := hid m5
      have L1 := hid m6
      clear hv m1 m2 m3 m4 m5 m6
      generalize (-t) = p at *
      generalize (-f) = q at *
      generalize hln : ilen f t = ln at *
      have L2 := hid hln
      clear hln
      go_wp2_with fail
      (with_reducible refine (iMirrorInterval_any f t _).mono ?_)
      rintro e wb ⟨rfl, hb⟩
      rw [M1.out, M2.out, V.out]
      have HA1 := hid (HA0.out.below hb)
      have HWb := hid (HWa.out.trans (hb.mono HWa.out.size))
      clear hb HA0 HWa
      have a0' := HA1.out.c0
      have a1' := HA1.out.c1
      have al := HA1.out.lt
      go_wp2_with fail
      (with_reducible refine (sMirrorInterval_any f t _).mono ?_)
      rintro e wc ⟨rfl, hb⟩
      rw [M1.out, M2.out, V.out]
      have HB1 := hid ((IvAt.made wb p q 31).below hb)
      have HA2 := hid ((HA1.out.below ((Below.refl _ _).alloc (Nat.le_refl _) (.cells #[.int .i64 p, .int .i64 q] 31))).below hb)
      have HWc := hid ((HWb.out.alloc HWb.out.size (.cells #[.int .i64 p, .int .i64 q] 31)).trans (hb.mono (Nat.le_trans HWb.out.size (by simp))))
      clear hb HA1 HWb a0' a1' al
      have b0' := HB1.out.c0
      have b1' := HB1.out.c1
      have bl' := HB1.out.lt
      have e1 : ¬ wb.heap.size = wc.heap.size := by omega
      go_wp2_with fail
      (with_reducible refine (iMirrorInterval_any p q _).mono ?_)
      rintro e wd ⟨rfl, hb⟩
      rw [M3.out, M4.out, V2.out]
      have hb1 := (Below.refl wc.heap.size wc).alloc (Nat.le_refl _) (.cells #[.int .i64 p, .int .i64 q] 31)
      have hb2 := (Below.refl wd.heap.size wd).alloc (Nat.le_refl _) (.cells #[.int .i64 f, .int .i64 t] 31)
      have HA3 := hid (((HA2.out.below hb1).below hb).below hb2)
      have HB3 := hid (((HB1.out.below hb1).below hb).below hb2)
      have HC3 := hid (IvAt.made wd f t 31)
      have HWd := hid (((HWc.out.trans (hb1.mono HWc.out.size)).trans (hb.mono (Nat.le_trans HWc.out.size hb1.size))).trans (hb2.mono (Nat.le_trans (Nat.le_trans HWc.out.size hb1.size) hb.size)))
      clear hb hb1 hb2 HA2 HB1 HWc b0' b1' bl' e1 M1 M2 M3 M4 V V2
      go_wp2_with fail
      have hAle : w.heap.size ≤ wa.heap.size := HBa.out.size
      generalize wd.alloc (.cells #[.int .i64 f, .int .i64 t] 31) = w9 at *
      generalize wd.heap.size = bC at *
      generalize wb.heap.size = bB at *
      generalize wa.heap.size = bA at *
      have a0' := HA3.out.c0
      have a1' := HA3.out.c1
      have al := HA3.out.lt
      have b0' := HB3.out.c0
      have b1' := HB3.out.c1
      have bl' := HB3.out.lt
      have c0' := HC3.out.c0
      have c1' := HC3.out.c1
      have cl' := HC3.out.lt
      clear HA3 HB3 HC3
      go_region_held3 (fun wx => wx.cell? ⟨bA, 0, none⟩ = some (.int .i64 f) ∧ wx.cell? ⟨bA, 1, none⟩ = some (.int .i64 t) ∧ wx.cell? ⟨bB, 0, none⟩ = some (.int .i64 p) ∧ wx.cell? ⟨bB, 1, none⟩ = some (.int .i64 q) ∧ wx.cell? ⟨bC, 0, none⟩ = some (.int .i64 f) ∧ wx.cell? ⟨bC, 1, none⟩ = some (.int .i64 t))
        (exact ⟨(Below.cell (B := w9.heap.size) (w := w9) (p := ⟨bA, 0, none⟩) (by (repeat' (first | (with_reducible exact Below.refl _ _) | (with_reducible refine Below.setCell ?_ ?_ _) | (with_reducible refine below_drewN' ?_ _) | (with_reducible refine below_drew' ?_) | (with_reducible refine Below.alloc ?_ ?_ _) | (with_reducible assumption) | go_size))) al).trans a0', (Below.cell (B := w9.heap.size) (w := w9) (p := ⟨bA, 1, none⟩) (by (repeat' (first | (with_reducible exact Below.refl _ _) | (with_reducible refine Below.setCell ?_ ?_ _) | (with_reducible refine below_drewN' ?_ _) | (with_reducible refine below_drew' ?_) | (with_reducible refine Below.alloc ?_ ?_ _) | (with_reducible assumption) | go_size))) al).trans a1', (Below.cell (B := w9.heap.size) (w := w9) (p := ⟨bB, 0, none⟩) (by (repeat' (first | (with_reducible exact Below.refl _ _) | (with_reducible refine Below.setCell ?_ ?_ _) | (with_reducible refine below_drewN' ?_ _) | (with_reducible refine below_drew' ?_) | (with_reducible refine Below.alloc ?_ ?_ _) | (with_reducible assumption) | go_size))) bl').trans b0', (Below.cell (B := w9.heap.size) (w := w9) (p := ⟨bB, 1, none⟩) (by (repeat' (first | (with_reducible exact Below.refl _ _) | (with_reducible refine Below.setCell ?_ ?_ _) | (with_reducible refine below_drewN' ?_ _) | (with_reducible refine below_drew' ?_) | (with_reducible refine Below.alloc ?_ ?_ _) | (with_reducible assumption) | go_size))) bl').trans b1', (Below.cell (B := w9.heap.size) (w := w9) (p := ⟨bC, 0, none⟩) (by (repeat' (first | (with_reducible exact Below.refl _ _) | (with_reducible refine Below.setCell ?_ ?_ _) | (with_reducible refine below_drewN' ?_ _) | (with_reducible refine below_drew' ?_) | (with_reducible refine Below.alloc ?_ ?_ _) | (with_reducible assumption) | go_size))) cl').trans c0', (Below.cell (B := w9.heap.size) (w := w9) (p := ⟨bC, 1, none⟩) (by (repeat' (first | (with_reducible exact Below.refl _ _) | (with_reducible refine Below.setCell ?_ ?_ _) | (with_reducible refine below_drewN' ?_ _) | (with_reducible refine below_drew' ?_) | (with_reducible refine Below.alloc ?_ ?_ _) | (with_reducible assumption) | go_size))) cl').trans c1'⟩)
        (first | (go_at_call 21; (with_reducible refine (iLengthOf_any _ _ _).mono ?_); rintro e w' ⟨rfl, hb⟩; (first | rw [L1.out] | rw [L2.out]); have HB3 : Below w9.heap.size w9 w' := (bst (w0 := w9) (by go_grown) hb).1; have hsz : w9.heap.size ≤ w'.heap.size := HB3.size; clear hb) | (go_at_call 22; (with_reducible refine (sLengthOf_any _ _ _).mono ?_); rintro e w' ⟨rfl, hb⟩; (first | rw [L1.out] | rw [L2.out]); have HB3 : Below w9.heap.size w9 w' := (bst (w0 := w9) (by go_grown) hb).1; have hsz : w9.heap.size ≤ w'.heap.size := HB3.size; clear hb) | fail)
      all_goals
        go_wp2
        go_ret
        exact ⟨rfl, HBa.out.trans (Below.mono (HWd.out.trans (Below.mono (show Below w9.heap.size w9 _ from by (repeat' (first | (with_reducible exact Below.refl _ _) | (with_reducible refine Below.setCell ?_ ?_ _) | (with_reducible refine below_drewN' ?_ _) | (with_reducible refine below_drew' ?_) | (with_reducible refine Below.alloc ?_ ?_ _) | (with_reducible assumption) | go_size))) (Nat.le_of_lt al))) hAle)⟩
  · have hd : decide ((1048576 : Int) < (len0 : Int)) = true := by simp; omega
    have HS := AllLt.start w; go_enter Try.func6, Try.ntmps6
    go_wp2
    go_ret
    exact ⟨rfl, Below.refl _ _⟩
end Go.Proofs.Ytnhpjjbblegnaac.C
