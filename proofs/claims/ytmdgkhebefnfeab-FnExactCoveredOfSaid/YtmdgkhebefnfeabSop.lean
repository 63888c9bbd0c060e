/- Sorted points: the program, the exact law. -/
import Derived.Test.YtmdgkhebefnfeabSrl
import Derived.Test.YtmdgkhebefnfeabShelf
namespace Go.Proofs.Ytmdgkhebefnfeab.C
open Go.RowKit
set_option linter.unusedVariables false
set_option linter.unusedSimpArgs false
/-- A slice of integers for reading, in a block that lies. -/
def SlR (w : World) (v : Value) (n : Nat) (f : Nat → Int) : Prop :=
  ∃ b o cap, v = .slice (some ⟨b, o, none⟩) n cap ∧ n ≤ cap ∧ b < w.heap.size ∧ ∀ i, i < n → w.cell? ⟨b, o + i, none⟩ = some (.int .i64 (f i))
theorem SlR.slB {w : World} {v : Value} {n : Nat} {f : Nat → Int} (h : SlR w v n f) : SlB w v n f := .inr h
theorem RowAt.slR {w : World} {b cap n : Nat} {f : Nat → Int} (h : RowAt w b cap n f) : SlR w (.slice (some ⟨b, 0, none⟩) n cap) n f :=
  ⟨b, 0, cap, rfl, h.1, h.2.1, fun i hi => by rw [Nat.zero_add]; exact h.2.2 i hi⟩
theorem put_below {α : Type} [Inhabited α] {B : Nat} {w : World} {enc : α → Value} {n blk off : Nat} {d : Array α} (h : B ≤ blk) : Below B w (Sort.putRow enc (Sort.ahead w n) blk off d) := by
  refine ⟨rfl, rfl, rfl, by simp, fun k hk => ?_⟩
  simp only [Sort.putRow, Sort.mapBlock, Array.getElem?_modify, Sort.heap_ahead]
  rw [if_neg (by omega)]
theorem grow_below {B : Nat} {w : World} {os : Array Obj} (h : B ≤ w.heap.size) : Below B w (Sort.grow w os) :=
  ⟨rfl, rfl, rfl, by simp, fun k hk => Sort.heap_grow_old w os (by omega)⟩
theorem fstZ_at (f : Nat → Int) (n : Nat) {i : Nat} (h : i < n) : (fstZ f n).getD i 0 = f i := by simp [fstZ, List.getD_eq_getElem?_getD, h]
set_option maxHeartbeats 4000000 in
theorem iSortPoints_any (n : Nat) (f : Nat → Int) (hn : n ≤ 1048576) (v : Value) (w : World) (hv : SlR w v n f) :
    Calls Try.prog 21 #[v] w (NewS w (srt (fstZ f n)).length fun i => (srt (fstZ f n)).getD i 0) := by
  obtain ⟨b, o, cap, rfl, hcap, hb, hc⟩ := hv
  have HC := hid (Try.slices_Clone_int b o n cap (fstZ f n) w (by rw [fstZ_len]; omega) (by omega) (fun j hj => by rw [fstZ_len] at hj; rw [fstZ_at f n hj]; exact hc j hj))
  clear hc
  have HS := AllLt.start w; go_enter Try.func21, Try.ntmps21
  go_wp2_with fail
  (with_reducible refine HC.out.mono ?_)
  rintro e w1 ⟨v1, rfl, hown, hnn, hb1⟩
  rw [List.take_of_length_le (by rw [fstZ_len]; omega)] at hown
  obtain ⟨g, cap1, cur, hv1, hBg, hg, hc1, hc2, hc3, hc4⟩ : ∃ (g cap : Nat) (cur : Array Value), _ := by
    rcases hown.2 with ⟨h, _⟩ | h
    · exact absurd h hnn
    · exact h
  subst hv1
  have hlt : g < w1.heap.size := (Array.getElem?_eq_some_iff.1 hg).1
  have HB1 := hid hb1
  have hH : Sort.Holds (Value.int .i64) w1 g 0 (fstZ f n).toArray := fun j hj => by
    have hj' : j < n := by simpa [fstZ_len] using hj
    refine ⟨?_, by rw [Nat.zero_add]; exact hown.frozenAt j⟩
    rw [Nat.zero_add, hown.cellAt j (by omega)]
    simp [hj', fstZ, getElem!_pos]
  have HS1 := hid (Try.slices_Sort_int g 0 cap1 (fstZ f n) w1 hH hlt (by rw [fstZ_len]; omega))
  rw [fstZ_len] at HS1
  have HH := hid hH
  clear hown hnn hb1 hg hc2 hc3 hc4 hH
  go_wp2_with fail
  (with_reducible refine HS1.out.mono ?_)
  rintro e w2 ⟨rfl, q, os, rfl⟩
  have hms : ((fstZ f n).mergeSort fun x y => decide (x ≤ y)).length = n := by rw [List.length_mergeSort, fstZ_len]
  have HCS := hid (compact_srt (fstZ f n))
  have hH2 := Sort.holds_putRow (Value.int .i64) (Sort.ahead w1 q) g 0 _ ((fstZ f n).mergeSort fun x y => decide (x ≤ y)).toArray (Sort.holds_ahead _ _ q _ _ _ HH.out) (by simp [hms, fstZ_len])
  have hB2 : Below w.heap.size w1 (Sort.putRow (Value.int .i64) (Sort.ahead w1 q) g 0 ((fstZ f n).mergeSort fun x y => decide (x ≤ y)).toArray) := put_below hBg
  have hs2 : (Sort.putRow (Value.int .i64) (Sort.ahead w1 q) g 0 ((fstZ f n).mergeSort fun x y => decide (x ≤ y)).toArray).heap.size = w1.heap.size := by simp
  generalize Sort.putRow (Value.int .i64) (Sort.ahead w1 q) g 0 ((fstZ f n).mergeSort fun x y => decide (x ≤ y)).toArray = wp at *
  have hH3 := Sort.holds_grow (Value.int .i64) wp os g 0 _ (by omega) hH2
  have hB3 : Below w.heap.size wp (Sort.grow wp os) := grow_below (by have := HB1.out.size; omega)
  have hs3 : wp.heap.size ≤ (Sort.grow wp os).heap.size := by simp
  generalize Sort.grow wp os = w3 at *
  generalize ((fstZ f n).mergeSort fun x y => decide (x ≤ y)) = ms at *
  have HS3 := hid (Try.slices_Compact_int g 0 cap1 ms w3 hH3 (by omega) (by omega))
  rw [hms] at HS3
  have HB3 := hid (HB1.out.trans (hB2.trans hB3))
  have HH3 := hid hH3
  clear hB2 hB3 hH2 hH3 HH HS1
  go_wp2_with fail
  (with_reducible refine HS3.out.mono ?_)
  rintro e w4 ⟨rfl, q2, rfl⟩
  have hle : (Lib.compact ms).length ≤ n := by
    rw [HCS.out]
    have := srt_len (fstZ f n)
    rw [fstZ_len] at this
    exact this
  have hsz : (Lib.compact ms ++ List.replicate (n - (Lib.compact ms).length) 0).toArray.size = ms.toArray.size := by simp; omega
  have hH4 := Sort.holds_putRow (Value.int .i64) (Sort.ahead w3 q2) g 0 _ (Lib.compact ms ++ List.replicate (n - (Lib.compact ms).length) 0).toArray (Sort.holds_ahead _ _ q2 _ _ _ HH3.out) hsz
  have hB4 : Below w.heap.size w3 (Sort.putRow (Value.int .i64) (Sort.ahead w3 q2) g 0 (Lib.compact ms ++ List.replicate (n - (Lib.compact ms).length) 0).toArray) := put_below hBg
  have hs4 : (Sort.putRow (Value.int .i64) (Sort.ahead w3 q2) g 0 (Lib.compact ms ++ List.replicate (n - (Lib.compact ms).length) 0).toArray).heap.size = w3.heap.size := by simp
  have HB4 := hid (HB3.out.trans hB4)
  have HN4 : Hid (NewSl w (Lib.compact ms).length (fun i => (Lib.compact ms).getD i 0) (.slice (some ⟨g, 0, none⟩) (Lib.compact ms).length cap1) (Sort.putRow (Value.int .i64) (Sort.ahead w3 q2) g 0 (Lib.compact ms ++ List.replicate (n - (Lib.compact ms).length) 0).toArray)) := by
    refine hid ⟨HB4.out, .inr ⟨g, cap1, rfl, by omega, hBg, by omega, fun i hi => ?_, fun i hi => ?_⟩⟩
    · have h := (hH4 i (by simp; omega)).1
      rw [Nat.zero_add] at h
      rw [h]
      simp [getElem!_pos, hi, List.getElem_append_left hi, show i < (Lib.compact ms).length + (n - (Lib.compact ms).length) by omega]
    · have h := (hH4 i (by simp; omega)).2
      rw [Nat.zero_add] at h
      exact h
  rw [HCS.out] at HN4 hs4 ⊢
  clear hB4 hH4 hs4
  generalize Sort.putRow (Value.int .i64) (Sort.ahead w3 q2) g 0 _ = w4 at *
  go_wp2_with fail
  go_ret
  exact ⟨_, rfl, HN4.out⟩
theorem sSortPoints_any (n : Nat) (f : Nat → Int) (hn : n ≤ 1048576) (v : Value) (w : World) (hv : SlB w v n f) :
    Calls Try.prog 19 #[v] w (NewS w (srt (fstZ f n)).length fun i => (srt (fstZ f n)).getD i 0) := by
  have HL := hid (l1Sort_any n f hn v w hv)
  clear hv
  have HS := AllLt.start w; go_enter Try.func19, Try.ntmps19
  go_wp2_with fail
  (with_reducible refine HL.out.mono ?_)
  rintro e w1 ⟨⟨g, cap, rfl, ho⟩, hb⟩
  have HN : Hid (NewSl w (srt (fstZ f n)).length (fun i => (srt (fstZ f n)).getD i 0) (.slice (some ⟨g, 0, none⟩) (srt (fstZ f n)).length cap) w1) :=
    hid ⟨hb, .inr ⟨g, cap, rfl, ho.cap, ho.ge, ho.lt, fun i hi => ho.at hi, fun i hi => ho.own.frozenAt i⟩⟩
  clear hb ho
  go_wp2_with fail
  go_ret
  exact ⟨_, rfl, HN.out⟩
set_option maxHeartbeats 2000000 in
theorem walk_FnExactSortPoints (a0 : Option Addr) (len0 cap0 : Nat) (z0 : List Int) (w : World) (w0 : IsRow .i64 w a0 len0 cap0 z0) :
    Calls Try.prog 6 #[.slice a0 len0 cap0] w fun e w' => e = .returned (.bool true) ∧ Below w.heap.size w w' := by
  by_cases hl : len0 ≤ 1048576
  · have hd : decide ((1048576 : Int) < (len0 : Int)) = false := by simp; omega
    obtain ⟨f, hf⟩ : ∃ f : Nat → Int, f = fun i => z0.getD i 0 := ⟨_, rfl⟩
    have HA : Hid (∀ w' : World, Below w.heap.size w w' → Calls Try.prog 20 #[.slice a0 len0 cap0] w' fun e w2 => e = .returned (.slice (some ⟨w'.heap.size, 0, none⟩) len0 len0) ∧ Below w'.heap.size w' w2 ∧ RowAt w2 w'.heap.size len0 len0 f ∧ ∀ i, i < len0 → w2.frozen? ⟨w'.heap.size, i, none⟩ = false) := hid fun w' hb => by
      obtain ⟨h1, h2⟩ := (w0.below hb).at
      rw [hf]
      exact (toIntR_any a0 cap0 len0 _ hl w' h1 h2).mono (by rintro e w2 ⟨rfl, q1, q2, q3, q4⟩; exact ⟨rfl, q1, ⟨Nat.le_refl _, q2, q3⟩, q4⟩)
    clear w0 hf
    have HSp := hid (fun (w : World) (v : Value) (h : SlB w v len0 f) => sSortPoints_any len0 f hl v w h)
    have HIm := hid (fun (w : World) (v : Value) (h : SlR w v len0 f) => iSortPoints_any len0 f hl v w h)
    have hm : (srt (fstZ f len0)).length ≤ 1048576 := (by have := srt_len (fstZ f len0); rw [fstZ_len] at this; omega)
    generalize (srt (fstZ f len0)).length = m at *
    generalize (fun i => (srt (fstZ f len0)).getD i 0) = FF at *
    have HQ1 := hid (show decide (((1 + len0 : Nat) : Int) < 0) = false by simp; omega)
    have HQ2 := hid (show decide (((1 + m : Nat) : Int) < 0) = false by simp; omega)
    have HQ3 := hid (show (((1 + m : Nat) : Int) != ((1 + m : Nat) : Int)) = false by simp)
    have HS := AllLt.start w; go_enter Try.func6, Try.ntmps6
    go_wp2_with fail
    (with_reducible refine (HA.out _ (Below.refl _ _)).mono ?_)
    rintro e wa ⟨rfl, hb, hr, _⟩
    have HR1 := hid hr.slR
    have HB1 := hid hb
    clear hb hr
    go_wp2_with fail
    (with_reducible refine (HSp.out _ _ HR1.out.slB).mono ?_)
    rintro e wb ⟨v0, rfl, hv0⟩
    have HV0 := hid hv0.v.up
    have HB2 := hid (HB1.out.trans (hv0.1.mono HB1.out.size))
    clear hv0 HR1 HB1
    go_wp2_with fail
    (with_reducible refine (HA.out _ HB2.out).mono ?_)
    rintro e wc ⟨rfl, hb, hr, hf⟩
    have HRX := hid hr
    have HFX := hid hf
    have HC3 := hid hb
    have HB3 := hid (HB2.out.trans (hb.mono HB2.out.size))
    have HLX := hid hr.2.1
    clear hb hr hf
    go_wp2_with fail
    (with_reducible refine (HIm.out _ _ HRX.out.slR).mono ?_)
    rintro e wd ⟨g0, rfl, hg0⟩
    have HG := hid hg0.v
    have HR4 := hid (HRX.out.below hg0.1)
    have HF4 := hid (fun i (hi : i < len0) => (hg0.1.frozen (p := ⟨wb.heap.size, i, none⟩) HLX.out).trans (HFX.out i hi))
    have HC4 := hid (HC3.out.trans (hg0.1.mono HC3.out.size))
    have HB4 := hid (HB3.out.trans (hg0.1.mono HB3.out.size))
    clear hg0 HB3 HRX HFX
    go_wp2_with fail
    (with_reducible refine (eqIntS_same _ _ m FF _ (by omega) HG.out.sl (HV0.out.below HC4.out).sl).mono ?_)
    rintro e _ ⟨rfl, q1, rfl⟩
    have HBd := hid (below_drewN wd.heap.size wd q1)
    generalize wd.drewN q1 = wd2 at *
    go_wp2_with fail
    (with_reducible refine (HA.out _ (HB4.out.trans (HBd.out.mono HB4.out.size))).mono ?_)
    rintro e we ⟨rfl, hb, hr, _⟩
    have hB5' : Below wd.heap.size wd we := HBd.out.trans (hb.mono HBd.out.size)
    have HG5 := hid (HG.out.below hB5')
    have HR5 := hid (HR4.out.below hB5')
    have HF5 := hid (fun i (hi : i < len0) => (hB5'.frozen (p := ⟨wb.heap.size, i, none⟩) HR4.out.2.1).trans (HF4.out i hi))
    have HC5 := hid (HC4.out.trans (hB5'.mono HC4.out.size))
    have HB5 := hid (HB4.out.trans (hB5'.mono HB4.out.size))
    have HN5 := hid hr
    clear hb hB5' hr HG HR4 HF4 HC4 HB4 HBd
    go_wp2_with fail
    (with_reducible refine (eqIntS_same _ _ len0 f _ (by omega) HR5.out.sl HN5.out.sl).mono ?_)
    rintro e _ ⟨rfl, q2, rfl⟩
    have hB6 : Below we.heap.size we (we.drewN q2) := below_drewN _ _ _
    generalize we.drewN q2 = wf at *
    have HG6 := hid (HG5.out.below hB6)
    have HR6 := hid (HR5.out.below hB6)
    have HF6 := hid (fun i (hi : i < len0) => (hB6.frozen (p := ⟨wb.heap.size, i, none⟩) HR5.out.2.1).trans (HF5.out i hi))
    have HC6 := hid (HC5.out.trans (hB6.mono HC5.out.size))
    have HB6 := hid (HB5.out.trans (hB6.mono HB5.out.size))
    clear hB6 HG5 HR5 HF5 HC5 HB5 HN5
    go_wp2_with fail
    have HCS := hid (show ∀ i, i < len0 → ∃ v, wf.cell? ⟨wb.heap.size, i, none⟩ = some v from fun i hi => ⟨_, HR6.out.2.2 i hi⟩)
    (with_reducible refine (show Calls _ _ #[_, .int .i64 1] _ _ from markIntS_row wb.heap.size len0 len0 1 wf (by omega) (Nat.le_refl _) HCS.out HF6.out).mono ?_)
    rintro e wg ⟨rfl, hM0⟩
    have hW := hM0.wr
    have HG7 := hid (HG6.out.wr hW HLX.out)
    have HC7 := hid (HC6.out.trans (hW.below (Nat.le_refl _) HC6.out.size))
    have HB7 := hid (HB6.out.trans (hW.below HB2.out.size HB6.out.size))
    clear hW hM0 HG6 HR6 HF6 HC6 HB6
    have hq1 := HQ1.out
    go_wp2_with fail
    clear hq1
    (with_reducible refine (eqIntS_same _ _ m FF _ (by omega) HG7.out.sl (HV0.out.below HC7.out).sl).mono ?_)
    rintro e _ ⟨rfl, q3, rfl⟩
    have HBg := hid (below_drewN wg.heap.size wg q3)
    generalize wg.drewN q3 = wg2 at *
    go_wp2_with fail
    (with_reducible refine (show Calls _ _ #[_, .int .i64 1] _ _ from markV_any (B := wb.heap.size) (n := m) (f := FF) 1 (by omega) (Nat.le_trans HC7.out.size HBg.out.size) (((HG7.out).below HBg.out).lower (Nat.le_of_lt HLX.out))).mono ?_)
    rintro e wh ⟨rfl, hM, hW⟩
    have hW' : Below wb.heap.size wg wh := (HBg.out.mono HC7.out.size).trans hW
    have HM := hid hM
    have HC8 := hid (HC7.out.trans hW')
    have HB8 := hid (HB7.out.trans (hW'.mono HB2.out.size))
    clear hW hW' hM HG7 HC7 HB7
    go_wp2_with fail
    (with_reducible refine (show Calls _ _ #[_, .int .i64 1] _ _ from heldV_any (n := m) 1 (by omega) HM.out).mono ?_)
    rintro e _ ⟨rfl, rfl⟩
    have hq2 := HQ2.out
    have hq3 := HQ3.out
    go_wp2_with fail
    clear hq2 hq3
    (with_reducible refine (HA.out _ HB8.out).mono ?_)
    rintro e wi ⟨rfl, hb, hr, _⟩
    have HR9 := hid hr.slR
    have HM9 := hid (HM.out.below hb)
    have HC9 := hid (HC8.out.trans (hb.mono HC8.out.size))
    have HB9 := hid (HB8.out.trans (hb.mono HB8.out.size))
    clear hb hr HM HC8 HB8
    go_wp2_with fail
    (with_reducible refine (HIm.out _ _ HR9.out).mono ?_)
    rintro e wj ⟨h0, rfl, hh0⟩
    have HH := hid hh0.v
    have HM10 := hid (HM9.out.below hh0.1)
    have HC10 := hid (HC9.out.trans (hh0.1.mono HC9.out.size))
    have HB10 := hid (HB9.out.trans (hh0.1.mono HB9.out.size))
    clear hh0 HR9 HM9 HC9 HB9
    go_wp2_with fail
    (with_reducible refine (eqIntS_same _ _ m FF _ (by omega) HH.out.sl (HV0.out.below HC10.out).sl).mono ?_)
    rintro e _ ⟨rfl, q4, rfl⟩
    have HBk := hid (below_drewN wj.heap.size wj q4)
    generalize wj.drewN q4 = wk at *
    go_wp2_with fail
    (with_reducible refine (show Calls _ _ #[_, .int .i64 1] _ _ from heldV_any (n := m) 1 (by omega) (HM10.out.below HBk.out)).mono ?_)
    rintro e _ ⟨rfl, rfl⟩
    have hq2 := HQ2.out
    have hq3 := HQ3.out
    go_wp2
    go_ret
    exact ⟨rfl, HB10.out.trans (HBk.out.mono HB10.out.size)⟩
  · have hd : decide ((1048576 : Int) < (len0 : Int)) = true := by simp; omega
    have HS := AllLt.start w; have hn2 := lt2; have hn3 := lt3; have hn4 := lt4; go_enter Try.func6, Try.ntmps6
    go_wp2
    go_ret
    exact ⟨rfl, Below.refl _ _⟩
end Go.Proofs.Ytmdgkhebefnfeab.C
