/- The model's ClosePoints and PointsConsistent, and the exact laws. -/
import Derived.Test.YtmdgkhebefnfeaaDoorPntV
import Derived.Test.YtmdgkhebefnfeaaDoorPntW
import Derived.Test.YtmdgkhebefnfeaaDoorPntX
namespace Go.Proofs.YtmdgkhebefnfeaaDoor.C
open Go.RowKit
set_option linter.unusedVariables false
set_option linter.unusedSimpArgs false
theorem row_ne {n nn : Nat} {C : Nat → Nat → Nat} (hnn : nn = n * n) (h : OkP n C) : neQ n nn C = !empQ n C := by
  subst hnn
  unfold neQ
  rw [Bool.eq_iff_iff, decide_eq_true_iff, Bool.not_eq_true', empQ_iff h]
  constructor
  · intro hh a b ha hb
    have := hh (a * n + b) (pat_lt ha hb)
    rw [flP_at C hb] at this
    exact this
  · intro hh x hx
    exact hh _ _ (div_lt' hx).1 (div_lt' hx).2.1
theorem own_nn {w : World} {b T n nn : Nat} {u : Value} {L : Nat → Nat} (e : nn = n * n) (h : w.ownsRow b T 1 u (n * n) (rL9 L (n * n))) : w.ownsRow b T 1 u nn (rL9 L nn) := by rw [e]; exact h
theorem tq_own_ne {w : World} {b z b' n g cap : Nat} {v : Value} {xs : List Value} (h : Tq w b z v) (k : w.ownsRow b' 3 1 (.slice (some ⟨g, 0, none⟩) n cap) n xs) : g ≠ b := by
  rintro rfl
  rcases k.2 with ⟨hv, _⟩ | ⟨g', cap', cur, hv, _, hg, _⟩
  · cases hv
  · cases hv
    unfold Tq at h
    rw [h] at hg
    injection hg with hg
    injection hg with _ h2
    exact absurd h2 (by decide)
/-- what the closing of a table leaves behind -/
structure CT (w W : World) (b4 n nn : Nat) (v : Value) (C : Nat → Nat → Nat) : Prop where
  tq : Tq W b4 n v
  own : ∃ bq, W.ownsRow bq 3 1 v nn (rL9 (flP n C) nn)
  pk : Pk W (w.heap.size + 1) 0 ⟨#[]⟩
  bel : Below w.heap.size w W
theorem CT.alloc {w w7 : World} {n nn : Nat} {v : Value} {C : Nat → Nat → Nat} (ho : ∃ bq, w7.ownsRow bq 3 1 v nn (rL9 (flP n C) nn)) (hp : Pk w7 (w.heap.size + 1) 0 ⟨#[]⟩) (hb : Below w.heap.size w w7) :
    CT w (w7.alloc (.cells #[.int .i64 (n : Int), v] 73)) w7.heap.size n nn v C :=
  ⟨Tq.made w7 n v, ho.imp fun _ h => h.alloc _, hp.alloc _, hb.alloc hb.size _⟩
theorem CT.store {w w7 : World} {b4 n nn gv capv : Nat} {C : Nat → Nat → Nat} (ht : Tq w7 b4 0 (.slice none 0 0)) (ho : ∃ bq, w7.ownsRow bq 3 1 (.slice (some ⟨gv, 0, none⟩) nn capv) nn (rL9 (flP n C) nn)) (hp : Pk w7 (w.heap.size + 1) 0 ⟨#[]⟩) (hb : Below w.heap.size w w7) (h4 : w.heap.size + 1 < b4) :
    CT w ((w7.setCell ⟨b4, 0, none⟩ (.int .i64 (n : Int))).setCell ⟨b4, 1, none⟩ (.slice (some ⟨gv, 0, none⟩) nn capv)) b4 n nn (.slice (some ⟨gv, 0, none⟩) nn capv) C := by
  obtain ⟨bq, ho⟩ := ho
  have hne := tq_own_ne ht ho
  exact ⟨(ht.set0 (z' := (n : Int))).set1 _, ⟨bq, own_far9 (own_far9 ho (p := ⟨b4, 0, none⟩) hne _) (p := ⟨b4, 1, none⟩) hne _⟩,
    (hp.far (p := ⟨b4, 0, none⟩) (show w.heap.size + 1 ≠ b4 by omega) _).far (p := ⟨b4, 1, none⟩) (show w.heap.size + 1 ≠ b4 by omega) _,
    (hb.setCell (p := ⟨b4, 0, none⟩) (show w.heap.size ≤ b4 by omega) _).setCell (p := ⟨b4, 1, none⟩) (show w.heap.size ≤ b4 by omega) _⟩
theorem sClosePoints_no (z : Int) (s : ByteArray) (h : PV z s = false) (w : World) :
    Calls Tryd.prog 37 #[.agg #[.int .i64 z, .string s]] w fun e w' => e = .returned (.tuple #[.agg #[.int .i64 0, .string ⟨#[]⟩], .bool false]) ∧ Below w.heap.size w w' := by
  have HV := hid h
  clear h
  have HS := AllLt.start w; have hn2 := lt2; have hn3 := lt3; have hn4 := lt4; go_enter Tryd.func37, Tryd.ntmps37
  go_wp2_with (first | (go_at_call 16; (with_reducible refine (sPointNetValid_any z s _).mono ?_); rintro e w' ⟨rfl, hb⟩; obtain ⟨HB, hz0, hz, hc, hf⟩ := bst (w0 := w) (by go_grown) hb; clear hb; (try simp at hz); (first | ((refine HS.g5 (m := w'.heap.size) ?_ ?_); (focus omega); intro HS) | ((refine HS.g4 (m := w'.heap.size) ?_ ?_); (focus omega); intro HS) | ((refine HS.g3 (m := w'.heap.size) ?_ ?_); (focus omega); intro HS) | ((refine HS.g2 (m := w'.heap.size) ?_ ?_); (focus omega); intro HS) | ((refine HS.g1 (m := w'.heap.size) ?_ ?_); (focus omega); intro HS) | ((refine HS.g0 (m := w'.heap.size) ?_ ?_); (focus omega); intro HS)); have HU := HS; simp only [AllLt] at HU; rw [HV.out]))
  refine bodyPost_ret (by simp [results, Tryd.results37, go_sem, *]; try rfl) rfl ?_
  exact ⟨rfl, by (repeat' (first | (with_reducible exact Below.refl _ _) | (with_reducible refine Below.setCell ?_ ?_ _) | (with_reducible refine below_drewN' ?_ _) | (with_reducible refine below_drew' ?_) | (with_reducible refine Below.alloc ?_ ?_ _) | (with_reducible assumption) | go_size))⟩
set_option maxHeartbeats 4000000 in
set_option maxRecDepth 100000 in
theorem sClosePoints_yes (n : Nat) (N : Nat → Nat → Nat) (hN : OkP n N) (w : World) :
    Calls Tryd.prog 37 #[.agg #[.int .i64 (n : Int), .string (pntS n N)]] w fun e w' => (∃ C, IsClo n N C ∧ e = .returned (.tuple #[.agg #[.int .i64 (n : Int), .string (pntS n C)], .bool true])) ∧ Below w.heap.size w w' := by
  have HV := hid (PV_pnt hN)
  have HOP := hid (l9Open_any n N hN)
  have h144 : n * n ≤ 144 := Nat.mul_le_mul hN.le hN.le
  have HB0 := hid (((Below.refl w.heap.size w).alloc (Nat.le_refl _) (.cells #[.int .i64 (n : Int), .string (pntS n N)] 26)).alloc (by simp) (.cells #[.int .i64 0, .string ⟨#[]⟩] 26))
  have HR0 := hid (show Pk ((w.alloc (.cells #[.int .i64 (n : Int), .string (pntS n N)] 26)).alloc (.cells #[.int .i64 0, .string ⟨#[]⟩] 26)) (w.heap.size + 1) 0 ⟨#[]⟩ by
    have := Pk.made (w.alloc (.cells #[.int .i64 (n : Int), .string (pntS n N)] 26)) 0 ⟨#[]⟩
    rw [World.size_alloc] at this
    exact this)
  have HK0 := hid (show Pk ((w.alloc (.cells #[.int .i64 (n : Int), .string (pntS n N)] 26)).alloc (.cells #[.int .i64 0, .string ⟨#[]⟩] 26)) w.heap.size n (pntS n N) from (Below.heap_alloc _ _ _ (by simp)).trans (Pk.made w n (pntS n N)))
  have HPS := hid (show ∀ M, pntS n M = dgB (flP n M) (n * n) from fun _ => rfl)
  generalize pntS n N = s at *
  obtain ⟨nn, hnn⟩ : ∃ nn, nn = n * n := ⟨_, rfl⟩
  have HCL := hid (l9Closed_any n nn hnn N hN)
  have HNN := hid hnn
  rw [← hnn] at h144
  have HNP := hid (show 0 < nn by rw [hnn]; exact Nat.mul_pos hN.one hN.one)
  clear hnn hN
  have HS := AllLt.start w; go_enter Tryd.func37, Tryd.ntmps37
  go_upto_region 1 with fail
  generalize (w.alloc (.cells #[.int .i64 (n : Int), .string s] 26)).alloc (.cells #[.int .i64 0, .string ⟨#[]⟩] 26) = w0 at *
  have q0 := HK0.out.c0
  have q1 := HK0.out.c1
  go_wp2_with fail
  (with_reducible refine (sPointNetValid_any n s _).mono ?_)
  rintro e w1 ⟨rfl, hb⟩
  rw [HV.out]
  have HR1 := hid (HR0.out.below hb HR0.out.lt)
  have HK1 := hid (HK0.out.below hb HK0.out.lt)
  have HB1 := hid (HB0.out.trans (hb.mono HB0.out.size))
  clear hb q0 q1
  have q0 := HK1.out.c0
  have q1 := HK1.out.c1
  have hkl := HK1.out.lt
  go_wp2_with fail
  have HS := AllLt.start w1
  go_region_held3 (fun wx => wx.cell? ⟨w.heap.size, 0, none⟩ = some (.int .i64 (n : Int)) ∧ wx.cell? ⟨w.heap.size, 1, none⟩ = some (.string s)) (first
      | exact ⟨q0, q1⟩
      | exact ⟨by rw [HB.cell (p := ⟨w.heap.size, 0, none⟩) hkl]; exact q0, by rw [HB.cell (p := ⟨w.heap.size, 1, none⟩) hkl]; exact q1⟩
      | exact ⟨(HK1.out.alloc _).c0, (HK1.out.alloc _).c1⟩
      | exact ⟨(HKw.out.alloc _).c0, (HKw.out.alloc _).c1⟩
      | exact ⟨((HKw.out.far (p := ⟨w6.heap.size, 0, none⟩) (show w.heap.size ≠ w6.heap.size by omega) _).far (p := ⟨w6.heap.size, 1, none⟩) (show w.heap.size ≠ w6.heap.size by omega) _).c0, ((HKw.out.far (p := ⟨w6.heap.size, 0, none⟩) (show w.heap.size ≠ w6.heap.size by omega) _).far (p := ⟨w6.heap.size, 1, none⟩) (show w.heap.size ≠ w6.heap.size by omega) _).c1⟩
      | exact ⟨((HKw.out.far (p := ⟨w5.heap.size, 0, none⟩) (show w.heap.size ≠ w5.heap.size by omega) _).far (p := ⟨w5.heap.size, 1, none⟩) (show w.heap.size ≠ w5.heap.size by omega) _).c0, ((HKw.out.far (p := ⟨w5.heap.size, 0, none⟩) (show w.heap.size ≠ w5.heap.size by omega) _).far (p := ⟨w5.heap.size, 1, none⟩) (show w.heap.size ≠ w5.heap.size by omega) _).c1⟩
      | exact ⟨((HKw.out.far (p := ⟨w1.heap.size, 0, none⟩) (show w.heap.size ≠ w1.heap.size by omega) _).far (p := ⟨w1.heap.size, 1, none⟩) (show w.heap.size ≠ w1.heap.size by omega) _).c0, ((HKw.out.far (p := ⟨w1.heap.size, 0, none⟩) (show w.heap.size ≠ w1.heap.size by omega) _).far (p := ⟨w1.heap.size, 1, none⟩) (show w.heap.size ≠ w1.heap.size by omega) _).c1⟩
      | fail)
    (first
       | (go_at_call 89; (with_reducible refine (l9Comp_any _).mono ?_); rintro e w5 ⟨⟨tv, rfl, hown⟩, hb⟩; have HT5 := hid hown; have HBM := hid hb; clear hown; obtain ⟨HB, hz0, hz, hc, hf⟩ := bst (w0 := w1) (by go_grown) hb; clear hb; (try simp at hz); (first | ((refine HS.g5 (m := w5.heap.size) ?_ ?_); (focus omega); intro HS) | ((refine HS.g4 (m := w5.heap.size) ?_ ?_); (focus omega); intro HS) | ((refine HS.g3 (m := w5.heap.size) ?_ ?_); (focus omega); intro HS) | ((refine HS.g2 (m := w5.heap.size) ?_ ?_); (focus omega); intro HS) | ((refine HS.g1 (m := w5.heap.size) ?_ ?_); (focus omega); intro HS) | ((refine HS.g0 (m := w5.heap.size) ?_ ?_); (focus omega); intro HS)); have HU := HS; simp only [AllLt] at HU; have HKw := hid (HK1.out.below HB HK1.out.lt))
       | (go_at_call 58; (with_reducible refine (HOP.out _).mono ?_); rintro e w6 ⟨⟨u, rfl, hown⟩, hb⟩; have HT6 := hid (own_bel (own_bel HT5.out (by go_grown)) hb); have HO6 := hid (own_nn HNN.out hown); have HBO := hid hb; clear hown; obtain ⟨HB, hz0, hz, hc, hf⟩ := bst (w0 := w1) (by go_grown) hb; clear hb; (try simp at hz); (first | ((refine HS.g5 (m := w6.heap.size) ?_ ?_); (focus omega); intro HS) | ((refine HS.g4 (m := w6.heap.size) ?_ ?_); (focus omega); intro HS) | ((refine HS.g3 (m := w6.heap.size) ?_ ?_); (focus omega); intro HS) | ((refine HS.g2 (m := w6.heap.size) ?_ ?_); (focus omega); intro HS) | ((refine HS.g1 (m := w6.heap.size) ?_ ?_); (focus omega); intro HS) | ((refine HS.g0 (m := w6.heap.size) ?_ ?_); (focus omega); intro HS)); have HU := HS; simp only [AllLt] at HU; have HKw := hid (HK1.out.below HB HK1.out.lt))
       | (go_at_call 88; (with_reducible refine (HCL.out _ _ _ _ _ (own_bel HO6.out (by go_grown)) (own_bel HT6.out (by go_grown))).mono ?_); rintro e w7 ⟨⟨C, v, hclo, rfl, htz, bq, hoq⟩, hb⟩; have HBC := hid hb; obtain ⟨HB, hz0, hz, hc, hf⟩ := bst (w0 := w1) (by go_grown) hb; clear hb; (try simp at hz); (first | ((refine HS.g5 (m := w7.heap.size) ?_ ?_); (focus omega); intro HS) | ((refine HS.g4 (m := w7.heap.size) ?_ ?_); (focus omega); intro HS) | ((refine HS.g3 (m := w7.heap.size) ?_ ?_); (focus omega); intro HS) | ((refine HS.g2 (m := w7.heap.size) ?_ ?_); (focus omega); intro HS) | ((refine HS.g1 (m := w7.heap.size) ?_ ?_); (focus omega); intro HS) | ((refine HS.g0 (m := w7.heap.size) ?_ ?_); (focus omega); intro HS)); have HU := HS; simp only [AllLt] at HU; have HB7 := hid (HB1.out.trans (HB.mono HB1.out.size)); have HR7 := hid (HR1.out.below HB HR1.out.lt); have HCO := hid hclo; have hoq2 := hoq; obtain ⟨gv, capv, rfl, hgv1, hgv2⟩ := hoq2.form HNP.out; have HO7 := hid hoq; have HKw := hid (HK1.out.below HB HK1.out.lt); clear hclo htz hoq hoq2) | fail)
  · have HCT := hid (CT.alloc ⟨_, HO7.out⟩ HR7.out HB7.out)
    generalize w7.alloc (.cells #[.int .i64 (n : Int), .slice (some ⟨gv, 0, none⟩) nn capv] 73) = w8 at *
    generalize w7.heap.size = b4 at *
    have z0 := HCT.out.tq.c0
    have z1 := HCT.out.tq.c1
    obtain ⟨bq8, ho8⟩ := HCT.out.own
    have HCC := hid (l9Close_any n _ nn h144 (flP n C) (fun x hx => HCO.out.ok.lt _ _ (div_lt' (by rw [← HNN.out]; exact hx)).1 (div_lt' (by rw [← HNN.out]; exact hx)).2.1) _ (Tz9.of_own ho8))
    clear ho8 q0 q1
    go_wp2_with fail
    (with_reducible refine HCC.out.mono ?_)
    rintro e w9 ⟨rfl, hb⟩
    have HR9 := hid (HCT.out.pk.below hb HCT.out.pk.lt)
    have HB9 := hid (HCT.out.bel.trans (hb.mono HCT.out.bel.size))
    clear hb z0 z1
    have y0 := HR9.out.c0
    have y1 := HR9.out.c1
    have yf0 := HR9.out.fr 0
    have yf1 := HR9.out.fr 1
    go_wp2_with fail
    refine bodyPost_ret (by simp [results, Tryd.results37, go_sem, *]; try rfl) rfl ?_
    exact ⟨⟨C, HCO.out, by rw [HPS.out C, ← HNN.out]⟩, (HB9.out.setCell (p := ⟨w.heap.size + 1, 0, none⟩) (by simp) _).setCell (p := ⟨w.heap.size + 1, 1, none⟩) (by simp) _⟩
  · have HCT := hid (CT.store ((Tq.made w6 0 (.slice none 0 0)).below HBC.out (by simp)) ⟨_, HO7.out⟩ HR7.out HB7.out (show w.heap.size + 1 < w6.heap.size by have := HR1.out.lt; omega))
    generalize (w7.setCell ⟨w6.heap.size, 0, none⟩ (.int .i64 (n : Int))).setCell ⟨w6.heap.size, 1, none⟩ (.slice (some ⟨gv, 0, none⟩) nn capv) = w8 at *
    generalize w6.heap.size = b4 at *
    have z0 := HCT.out.tq.c0
    have z1 := HCT.out.tq.c1
    obtain ⟨bq8, ho8⟩ := HCT.out.own
    have HCC := hid (l9Close_any n _ nn h144 (flP n C) (fun x hx => HCO.out.ok.lt _ _ (div_lt' (by rw [← HNN.out]; exact hx)).1 (div_lt' (by rw [← HNN.out]; exact hx)).2.1) _ (Tz9.of_own ho8))
    clear ho8 q0 q1
    go_wp2_with fail
    (with_reducible refine HCC.out.mono ?_)
    rintro e w9 ⟨rfl, hb⟩
    have HR9 := hid (HCT.out.pk.below hb HCT.out.pk.lt)
    have HB9 := hid (HCT.out.bel.trans (hb.mono HCT.out.bel.size))
    clear hb z0 z1
    have y0 := HR9.out.c0
    have y1 := HR9.out.c1
    have yf0 := HR9.out.fr 0
    have yf1 := HR9.out.fr 1
    go_wp2_with fail
    refine bodyPost_ret (by simp [results, Tryd.results37, go_sem, *]; try rfl) rfl ?_
    exact ⟨⟨C, HCO.out, by rw [HPS.out C, ← HNN.out]⟩, (HB9.out.setCell (p := ⟨w.heap.size + 1, 0, none⟩) (by simp) _).setCell (p := ⟨w.heap.size + 1, 1, none⟩) (by simp) _⟩
  · have HCT := hid (CT.store (((Tq.made w5 0 (.slice none 0 0)).below HBO.out (by simp)).below HBC.out (by have := HBO.out.size; simp at this; omega)) ⟨_, HO7.out⟩ HR7.out HB7.out (show w.heap.size + 1 < w5.heap.size by have := HR1.out.lt; omega))
    generalize (w7.setCell ⟨w5.heap.size, 0, none⟩ (.int .i64 (n : Int))).setCell ⟨w5.heap.size, 1, none⟩ (.slice (some ⟨gv, 0, none⟩) nn capv) = w8 at *
    generalize w5.heap.size = b4 at *
    have z0 := HCT.out.tq.c0
    have z1 := HCT.out.tq.c1
    obtain ⟨bq8, ho8⟩ := HCT.out.own
    have HCC := hid (l9Close_any n _ nn h144 (flP n C) (fun x hx => HCO.out.ok.lt _ _ (div_lt' (by rw [← HNN.out]; exact hx)).1 (div_lt' (by rw [← HNN.out]; exact hx)).2.1) _ (Tz9.of_own ho8))
    clear ho8 q0 q1
    go_wp2_with fail
    (with_reducible refine HCC.out.mono ?_)
    rintro e w9 ⟨rfl, hb⟩
    have HR9 := hid (HCT.out.pk.below hb HCT.out.pk.lt)
    have HB9 := hid (HCT.out.bel.trans (hb.mono HCT.out.bel.size))
    clear hb z0 z1
    have y0 := HR9.out.c0
    have y1 := HR9.out.c1
    have yf0 := HR9.out.fr 0
    have yf1 := HR9.out.fr 1
    go_wp2_with fail
    refine bodyPost_ret (by simp [results, Tryd.results37, go_sem, *]; try rfl) rfl ?_
    exact ⟨⟨C, HCO.out, by rw [HPS.out C, ← HNN.out]⟩, (HB9.out.setCell (p := ⟨w.heap.size + 1, 0, none⟩) (by simp) _).setCell (p := ⟨w.heap.size + 1, 1, none⟩) (by simp) _⟩
  · have HCT := hid (CT.store ((((Tq.made w1 0 (.slice none 0 0)).below (((Below.refl (w1.alloc (.cells #[.int .i64 0, .slice none 0 0] 73)).heap.size _).drew).trans HBM.out) (by rw [World.size_alloc]; exact Nat.lt_succ_self _)).below HBO.out (by have := HBM.out.size; simp at this; omega)).below HBC.out (by have := HBM.out.size; have := HBO.out.size; simp at *; omega)) ⟨_, HO7.out⟩ HR7.out HB7.out (show w.heap.size + 1 < w1.heap.size by have := HR1.out.lt; omega))
    generalize (w7.setCell ⟨w1.heap.size, 0, none⟩ (.int .i64 (n : Int))).setCell ⟨w1.heap.size, 1, none⟩ (.slice (some ⟨gv, 0, none⟩) nn capv) = w8 at *
    generalize w1.heap.size = b4 at *
    have z0 := HCT.out.tq.c0
    have z1 := HCT.out.tq.c1
    obtain ⟨bq8, ho8⟩ := HCT.out.own
    have HCC := hid (l9Close_any n _ nn h144 (flP n C) (fun x hx => HCO.out.ok.lt _ _ (div_lt' (by rw [← HNN.out]; exact hx)).1 (div_lt' (by rw [← HNN.out]; exact hx)).2.1) _ (Tz9.of_own ho8))
    clear ho8 q0 q1
    go_wp2_with fail
    (with_reducible refine HCC.out.mono ?_)
    rintro e w9 ⟨rfl, hb⟩
    have HR9 := hid (HCT.out.pk.below hb HCT.out.pk.lt)
    have HB9 := hid (HCT.out.bel.trans (hb.mono HCT.out.bel.size))
    clear hb z0 z1
    have y0 := HR9.out.c0
    have y1 := HR9.out.c1
    have yf0 := HR9.out.fr 0
    have yf1 := HR9.out.fr 1
    go_wp2_with fail
    refine bodyPost_ret (by simp [results, Tryd.results37, go_sem, *]; try rfl) rfl ?_
    exact ⟨⟨C, HCO.out, by rw [HPS.out C, ← HNN.out]⟩, (HB9.out.setCell (p := ⟨w.heap.size + 1, 0, none⟩) (by simp) _).setCell (p := ⟨w.heap.size + 1, 1, none⟩) (by simp) _⟩
theorem sPointsCons_no (z : Int) (s : ByteArray) (h : PV z s = false) (w : World) :
    Calls Tryd.prog 39 #[.agg #[.int .i64 z, .string s]] w fun e w' => e = .returned (.bool false) ∧ Below w.heap.size w w' := by
  have HV := hid h
  clear h
  have HS := AllLt.start w; have hn2 := lt2; have hn3 := lt3; have hn4 := lt4; go_enter Tryd.func39, Tryd.ntmps39
  go_wp2_with (first | (go_at_call 16; (with_reducible refine (sPointNetValid_any z s _).mono ?_); rintro e w' ⟨rfl, hb⟩; obtain ⟨HB, hz0, hz, hc, hf⟩ := bst (w0 := w) (by go_grown) hb; clear hb; (try simp at hz); (first | ((refine HS.g5 (m := w'.heap.size) ?_ ?_); (focus omega); intro HS) | ((refine HS.g4 (m := w'.heap.size) ?_ ?_); (focus omega); intro HS) | ((refine HS.g3 (m := w'.heap.size) ?_ ?_); (focus omega); intro HS) | ((refine HS.g2 (m := w'.heap.size) ?_ ?_); (focus omega); intro HS) | ((refine HS.g1 (m := w'.heap.size) ?_ ?_); (focus omega); intro HS) | ((refine HS.g0 (m := w'.heap.size) ?_ ?_); (focus omega); intro HS)); have HU := HS; simp only [AllLt] at HU; rw [HV.out]))
  go_ret
  exact ⟨rfl, by (repeat' (first | (with_reducible exact Below.refl _ _) | (with_reducible refine Below.setCell ?_ ?_ _) | (with_reducible refine below_drewN' ?_ _) | (with_reducible refine below_drew' ?_) | (with_reducible refine Below.alloc ?_ ?_ _) | (with_reducible assumption) | go_size))⟩
set_option maxHeartbeats 4000000 in
set_option maxRecDepth 100000 in
theorem sPointsCons_yes (n : Nat) (N : Nat → Nat → Nat) (hN : OkP n N) (w : World) :
    Calls Tryd.prog 39 #[.agg #[.int .i64 (n : Int), .string (pntS n N)]] w fun e w' => (∃ C, IsClo n N C ∧ e = .returned (.bool (!empQ n C))) ∧ Below w.heap.size w w' := by
  have HV := hid (PV_pnt hN)
  have HOP := hid (l9Open_any n N hN)
  have HB0 := hid ((Below.refl w.heap.size w).alloc (Nat.le_refl _) (.cells #[.int .i64 (n : Int), .string (pntS n N)] 26))
  have HK0 := hid (Pk.made w n (pntS n N))
  generalize pntS n N = s at *
  obtain ⟨nn, hnn⟩ : ∃ nn, nn = n * n := ⟨_, rfl⟩
  have HCL := hid (l9Closed_any n nn hnn N hN)
  have HNN := hid hnn
  have HNP := hid (show 0 < nn by rw [hnn]; exact Nat.mul_pos hN.one hN.one)
  clear hnn hN
  have HS := AllLt.start w; go_enter Tryd.func39, Tryd.ntmps39
  go_upto_region 1 with fail
  generalize w.alloc (.cells #[.int .i64 (n : Int), .string s] 26) = w0 at *
  have q0 := HK0.out.c0
  have q1 := HK0.out.c1
  go_wp2_with fail
  (with_reducible refine (sPointNetValid_any n s _).mono ?_)
  rintro e w1 ⟨rfl, hb⟩
  rw [HV.out]
  have HK1 := hid (HK0.out.below hb HK0.out.lt)
  have HB1 := hid (HB0.out.trans (hb.mono HB0.out.size))
  clear hb q0 q1
  have q0 := HK1.out.c0
  have q1 := HK1.out.c1
  have hkl := HK1.out.lt
  go_wp2_with fail
  have HS := AllLt.start w1
  go_region_held3 (fun wx => wx.cell? ⟨w.heap.size, 0, none⟩ = some (.int .i64 (n : Int)) ∧ wx.cell? ⟨w.heap.size, 1, none⟩ = some (.string s)) (first
      | exact ⟨q0, q1⟩
      | exact ⟨by rw [HB.cell (p := ⟨w.heap.size, 0, none⟩) hkl]; exact q0, by rw [HB.cell (p := ⟨w.heap.size, 1, none⟩) hkl]; exact q1⟩
      | exact ⟨(HK1.out.alloc _).c0, (HK1.out.alloc _).c1⟩
      | exact ⟨(HKw.out.alloc _).c0, (HKw.out.alloc _).c1⟩
      | exact ⟨((HKw.out.far (p := ⟨w6.heap.size, 0, none⟩) (show w.heap.size ≠ w6.heap.size by omega) _).far (p := ⟨w6.heap.size, 1, none⟩) (show w.heap.size ≠ w6.heap.size by omega) _).c0, ((HKw.out.far (p := ⟨w6.heap.size, 0, none⟩) (show w.heap.size ≠ w6.heap.size by omega) _).far (p := ⟨w6.heap.size, 1, none⟩) (show w.heap.size ≠ w6.heap.size by omega) _).c1⟩
      | exact ⟨((HKw.out.far (p := ⟨w5.heap.size, 0, none⟩) (show w.heap.size ≠ w5.heap.size by omega) _).far (p := ⟨w5.heap.size, 1, none⟩) (show w.heap.size ≠ w5.heap.size by omega) _).c0, ((HKw.out.far (p := ⟨w5.heap.size, 0, none⟩) (show w.heap.size ≠ w5.heap.size by omega) _).far (p := ⟨w5.heap.size, 1, none⟩) (show w.heap.size ≠ w5.heap.size by omega) _).c1⟩
      | exact ⟨((HKw.out.far (p := ⟨w1.heap.size, 0, none⟩) (show w.heap.size ≠ w1.heap.size by omega) _).far (p := ⟨w1.heap.size, 1, none⟩) (show w.heap.size ≠ w1.heap.size by omega) _).c0, ((HKw.out.far (p := ⟨w1.heap.size, 0, none⟩) (show w.heap.size ≠ w1.heap.size by omega) _).far (p := ⟨w1.heap.size, 1, none⟩) (show w.heap.size ≠ w1.heap.size by omega) _).c1⟩
      | fail)
    (first
       | (go_at_call 89; (with_reducible refine (l9Comp_any _).mono ?_); rintro e w5 ⟨⟨tv, rfl, hown⟩, hb⟩; have HT5 := hid hown; have HBM := hid hb; clear hown; obtain ⟨HB, hz0, hz, hc, hf⟩ := bst (w0 := w1) (by go_grown) hb; clear hb; (try simp at hz); (first | ((refine HS.g5 (m := w5.heap.size) ?_ ?_); (focus omega); intro HS) | ((refine HS.g4 (m := w5.heap.size) ?_ ?_); (focus omega); intro HS) | ((refine HS.g3 (m := w5.heap.size) ?_ ?_); (focus omega); intro HS) | ((refine HS.g2 (m := w5.heap.size) ?_ ?_); (focus omega); intro HS) | ((refine HS.g1 (m := w5.heap.size) ?_ ?_); (focus omega); intro HS) | ((refine HS.g0 (m := w5.heap.size) ?_ ?_); (focus omega); intro HS)); have HU := HS; simp only [AllLt] at HU; have HKw := hid (HK1.out.below HB HK1.out.lt))
       | (go_at_call 58; (with_reducible refine (HOP.out _).mono ?_); rintro e w6 ⟨⟨u, rfl, hown⟩, hb⟩; have HT6 := hid (own_bel (own_bel HT5.out (by go_grown)) hb); have HO6 := hid (own_nn HNN.out hown); have HBO := hid hb; clear hown; obtain ⟨HB, hz0, hz, hc, hf⟩ := bst (w0 := w1) (by go_grown) hb; clear hb; (try simp at hz); (first | ((refine HS.g5 (m := w6.heap.size) ?_ ?_); (focus omega); intro HS) | ((refine HS.g4 (m := w6.heap.size) ?_ ?_); (focus omega); intro HS) | ((refine HS.g3 (m := w6.heap.size) ?_ ?_); (focus omega); intro HS) | ((refine HS.g2 (m := w6.heap.size) ?_ ?_); (focus omega); intro HS) | ((refine HS.g1 (m := w6.heap.size) ?_ ?_); (focus omega); intro HS) | ((refine HS.g0 (m := w6.heap.size) ?_ ?_); (focus omega); intro HS)); have HU := HS; simp only [AllLt] at HU; have HKw := hid (HK1.out.below HB HK1.out.lt))
       | (go_at_call 88; (with_reducible refine (HCL.out _ _ _ _ _ (own_bel HO6.out (by go_grown)) (own_bel HT6.out (by go_grown))).mono ?_); rintro e w7 ⟨⟨C, v, hclo, rfl, htz, bq, hoq⟩, hb⟩; have HBC := hid hb; obtain ⟨HB, hz0, hz, hc, hf⟩ := bst (w0 := w1) (by go_grown) hb; clear hb; (try simp at hz); (first | ((refine HS.g5 (m := w7.heap.size) ?_ ?_); (focus omega); intro HS) | ((refine HS.g4 (m := w7.heap.size) ?_ ?_); (focus omega); intro HS) | ((refine HS.g3 (m := w7.heap.size) ?_ ?_); (focus omega); intro HS) | ((refine HS.g2 (m := w7.heap.size) ?_ ?_); (focus omega); intro HS) | ((refine HS.g1 (m := w7.heap.size) ?_ ?_); (focus omega); intro HS) | ((refine HS.g0 (m := w7.heap.size) ?_ ?_); (focus omega); intro HS)); have HU := HS; simp only [AllLt] at HU; have HB7 := hid (HB1.out.trans (HB.mono HB1.out.size)); have HCO := hid hclo; have hoq2 := hoq; obtain ⟨gv, capv, rfl, hgv1, hgv2⟩ := hoq2.form HNP.out; have HO7 := hid hoq; have HKw := hid (HK1.out.below HB HK1.out.lt); clear hclo htz hoq hoq2) | fail)
  all_goals
    have HEQ := hid (row_ne HNN.out HCO.out.ok)
    go_wp2_with fail
    go_ret
    first
      | exact ⟨⟨C, HCO.out, ret_bool HEQ.out⟩, HB7.out.alloc HB7.out.size _⟩
      | exact ⟨⟨C, HCO.out, ret_bool HEQ.out⟩, (HB7.out.setCell (p := ⟨w6.heap.size, 0, none⟩) (show w.heap.size ≤ w6.heap.size by omega) _).setCell (p := ⟨w6.heap.size, 1, none⟩) (show w.heap.size ≤ w6.heap.size by omega) _⟩
      | exact ⟨⟨C, HCO.out, ret_bool HEQ.out⟩, (HB7.out.setCell (p := ⟨w5.heap.size, 0, none⟩) (show w.heap.size ≤ w5.heap.size by omega) _).setCell (p := ⟨w5.heap.size, 1, none⟩) (show w.heap.size ≤ w5.heap.size by omega) _⟩
      | exact ⟨⟨C, HCO.out, ret_bool HEQ.out⟩, (HB7.out.setCell (p := ⟨w1.heap.size, 0, none⟩) (show w.heap.size ≤ w1.heap.size by omega) _).setCell (p := ⟨w1.heap.size, 1, none⟩) (show w.heap.size ≤ w1.heap.size by omega) _⟩
      | fail
set_option maxHeartbeats 1000000 in
theorem walk_FnExactClosePoints (a00 : Int) (a01 : ByteArray) (w : World) (w00 : (Lit.int .i64 a00).wf = true) (w01 : a01.size ≤ maxLen) (hT : TO w) :
    Calls Tryd.prog 10 #[.agg #[.int .i64 a00, .string a01]] w fun e w' => e = .returned (.bool true) ∧ Below w.heap.size w w' := by
  have HT := hid hT
  clear hT w00
  by_cases hs : a01.size ≤ 1048576
  · have h0 : decide ((1048576 : Int) - (a01.size : Int) < 0) = false := by simp; omega
    have h1 : decide ((1048576 : Int) < (a01.size : Int)) = false := by simp; omega
    clear w01
    rcases PV_cases a00 a01 with h | ⟨n, N, hN, rfl, rfl⟩
    · have HS0 := hid (sClosePoints_no a00 a01 h)
      have HI0 := hid (iClosePoints_no a00 a01 h)
      clear h
      have HS := AllLt.start w; have hn2 := lt2; have hn3 := lt3; have hn4 := lt4; go_enter Tryd.func10, Tryd.ntmps10
      go_wp2_with (first | (go_at_call 15; (with_reducible refine (szPN_on a00 a01 hs _).mono ?_); rintro e w' ⟨rfl, hb⟩; obtain ⟨HB, hz0, hz, hc, hf⟩ := bst (w0 := w) (by go_grown) hb; clear hb; (try simp at hz); (first | ((refine HS.g5 (m := w'.heap.size) ?_ ?_); (focus omega); intro HS) | ((refine HS.g4 (m := w'.heap.size) ?_ ?_); (focus omega); intro HS) | ((refine HS.g3 (m := w'.heap.size) ?_ ?_); (focus omega); intro HS) | ((refine HS.g2 (m := w'.heap.size) ?_ ?_); (focus omega); intro HS) | ((refine HS.g1 (m := w'.heap.size) ?_ ?_); (focus omega); intro HS) | ((refine HS.g0 (m := w'.heap.size) ?_ ?_); (focus omega); intro HS)); have HU := HS; simp only [AllLt] at HU) | (go_at_call 17; (with_reducible refine (toPN_any _ _ _).mono ?_); rintro e w' ⟨rfl, hb⟩; obtain ⟨HB, hz0, hz, hc, hf⟩ := bst (w0 := w) (by go_grown) hb; clear hb; (try simp at hz); (first | ((refine HS.g5 (m := w'.heap.size) ?_ ?_); (focus omega); intro HS) | ((refine HS.g4 (m := w'.heap.size) ?_ ?_); (focus omega); intro HS) | ((refine HS.g3 (m := w'.heap.size) ?_ ?_); (focus omega); intro HS) | ((refine HS.g2 (m := w'.heap.size) ?_ ?_); (focus omega); intro HS) | ((refine HS.g1 (m := w'.heap.size) ?_ ?_); (focus omega); intro HS) | ((refine HS.g0 (m := w'.heap.size) ?_ ?_); (focus omega); intro HS)); have HU := HS; simp only [AllLt] at HU) | (go_at_call 37; (with_reducible refine (HS0.out _).mono ?_); rintro e w' ⟨rfl, hb⟩; obtain ⟨HB, hz0, hz, hc, hf⟩ := bst (w0 := w) (by go_grown) hb; clear hb; (try simp at hz); (first | ((refine HS.g5 (m := w'.heap.size) ?_ ?_); (focus omega); intro HS) | ((refine HS.g4 (m := w'.heap.size) ?_ ?_); (focus omega); intro HS) | ((refine HS.g3 (m := w'.heap.size) ?_ ?_); (focus omega); intro HS) | ((refine HS.g2 (m := w'.heap.size) ?_ ?_); (focus omega); intro HS) | ((refine HS.g1 (m := w'.heap.size) ?_ ?_); (focus omega); intro HS) | ((refine HS.g0 (m := w'.heap.size) ?_ ?_); (focus omega); intro HS)); have HU := HS; simp only [AllLt] at HU) | (go_at_call 38; (with_reducible refine (HI0.out _ (HT.out.below (by go_grown))).mono ?_); rintro e w' ⟨rfl, hb⟩; obtain ⟨HB, hz0, hz, hc, hf⟩ := bst (w0 := w) (by go_grown) hb; clear hb; (try simp at hz); (first | ((refine HS.g5 (m := w'.heap.size) ?_ ?_); (focus omega); intro HS) | ((refine HS.g4 (m := w'.heap.size) ?_ ?_); (focus omega); intro HS) | ((refine HS.g3 (m := w'.heap.size) ?_ ?_); (focus omega); intro HS) | ((refine HS.g2 (m := w'.heap.size) ?_ ?_); (focus omega); intro HS) | ((refine HS.g1 (m := w'.heap.size) ?_ ?_); (focus omega); intro HS) | ((refine HS.g0 (m := w'.heap.size) ?_ ?_); (focus omega); intro HS)); have HU := HS; simp only [AllLt] at HU) | (go_at_call 23; (with_reducible refine (eqPN_same _ _ _).mono ?_); rintro e w' ⟨rfl, hb⟩; obtain ⟨HB, hz0, hz, hc, hf⟩ := bst (w0 := w) (by go_grown) hb; clear hb; (try simp at hz); (first | ((refine HS.g5 (m := w'.heap.size) ?_ ?_); (focus omega); intro HS) | ((refine HS.g4 (m := w'.heap.size) ?_ ?_); (focus omega); intro HS) | ((refine HS.g3 (m := w'.heap.size) ?_ ?_); (focus omega); intro HS) | ((refine HS.g2 (m := w'.heap.size) ?_ ?_); (focus omega); intro HS) | ((refine HS.g1 (m := w'.heap.size) ?_ ?_); (focus omega); intro HS) | ((refine HS.g0 (m := w'.heap.size) ?_ ?_); (focus omega); intro HS)); have HU := HS; simp only [AllLt] at HU))
      go_ret
      exact ⟨rfl, by (repeat' (first | (with_reducible exact Below.refl _ _) | (with_reducible refine Below.setCell ?_ ?_ _) | (with_reducible refine below_drewN' ?_ _) | (with_reducible refine below_drew' ?_) | (with_reducible refine Below.alloc ?_ ?_ _) | (with_reducible assumption) | go_size))⟩
    · have HS0 := hid (sClosePoints_yes n N hN)
      have HI0 := hid (iClosePoints_yes n N hN)
      have HPC := hid (fun (C D : Nat → Nat → Nat) (h1 : IsClo n N C) (h2 : IsClo n N D) => pntS_congr fun i k hi hk => h1.uniq h2 hi hk)
      generalize pntS n N = s at *
      have HS := AllLt.start w; have hn2 := lt2; have hn3 := lt3; have hn4 := lt4; go_enter Tryd.func10, Tryd.ntmps10
      go_wp2_with (first | (go_at_call 15; (with_reducible refine (szPN_on _ s hs _).mono ?_); rintro e w' ⟨rfl, hb⟩; obtain ⟨HB, hz0, hz, hc, hf⟩ := bst (w0 := w) (by go_grown) hb; clear hb; (try simp at hz); (first | ((refine HS.g5 (m := w'.heap.size) ?_ ?_); (focus omega); intro HS) | ((refine HS.g4 (m := w'.heap.size) ?_ ?_); (focus omega); intro HS) | ((refine HS.g3 (m := w'.heap.size) ?_ ?_); (focus omega); intro HS) | ((refine HS.g2 (m := w'.heap.size) ?_ ?_); (focus omega); intro HS) | ((refine HS.g1 (m := w'.heap.size) ?_ ?_); (focus omega); intro HS) | ((refine HS.g0 (m := w'.heap.size) ?_ ?_); (focus omega); intro HS)); have HU := HS; simp only [AllLt] at HU) | (go_at_call 17; (with_reducible refine (toPN_any _ _ _).mono ?_); rintro e w' ⟨rfl, hb⟩; obtain ⟨HB, hz0, hz, hc, hf⟩ := bst (w0 := w) (by go_grown) hb; clear hb; (try simp at hz); (first | ((refine HS.g5 (m := w'.heap.size) ?_ ?_); (focus omega); intro HS) | ((refine HS.g4 (m := w'.heap.size) ?_ ?_); (focus omega); intro HS) | ((refine HS.g3 (m := w'.heap.size) ?_ ?_); (focus omega); intro HS) | ((refine HS.g2 (m := w'.heap.size) ?_ ?_); (focus omega); intro HS) | ((refine HS.g1 (m := w'.heap.size) ?_ ?_); (focus omega); intro HS) | ((refine HS.g0 (m := w'.heap.size) ?_ ?_); (focus omega); intro HS)); have HU := HS; simp only [AllLt] at HU))
      (with_reducible refine (HS0.out _).mono ?_)
      rintro e w5 ⟨⟨C, hC, rfl⟩, hb⟩
      have HC := hid hC
      clear hC
      obtain ⟨HB, hz0, hz, hc, hf⟩ := bst (w0 := w) (by go_grown) hb; clear hb; (try simp at hz); (first | ((refine HS.g5 (m := w5.heap.size) ?_ ?_); (focus omega); intro HS) | ((refine HS.g4 (m := w5.heap.size) ?_ ?_); (focus omega); intro HS) | ((refine HS.g3 (m := w5.heap.size) ?_ ?_); (focus omega); intro HS) | ((refine HS.g2 (m := w5.heap.size) ?_ ?_); (focus omega); intro HS) | ((refine HS.g1 (m := w5.heap.size) ?_ ?_); (focus omega); intro HS) | ((refine HS.g0 (m := w5.heap.size) ?_ ?_); (focus omega); intro HS)); have HU := HS; simp only [AllLt] at HU
      go_wp2_with (first | (go_at_call 17; (with_reducible refine (toPN_any _ _ _).mono ?_); rintro e w' ⟨rfl, hb⟩; obtain ⟨HB, hz0, hz, hc, hf⟩ := bst (w0 := w) (by go_grown) hb; clear hb; (try simp at hz); (first | ((refine HS.g5 (m := w'.heap.size) ?_ ?_); (focus omega); intro HS) | ((refine HS.g4 (m := w'.heap.size) ?_ ?_); (focus omega); intro HS) | ((refine HS.g3 (m := w'.heap.size) ?_ ?_); (focus omega); intro HS) | ((refine HS.g2 (m := w'.heap.size) ?_ ?_); (focus omega); intro HS) | ((refine HS.g1 (m := w'.heap.size) ?_ ?_); (focus omega); intro HS) | ((refine HS.g0 (m := w'.heap.size) ?_ ?_); (focus omega); intro HS)); have HU := HS; simp only [AllLt] at HU))
      (with_reducible refine (HI0.out _ (HT.out.below (by go_grown))).mono ?_)
      rintro e w6 ⟨⟨D, hD, rfl⟩, hb⟩
      rw [HPC.out D C hD HC.out]
      clear hD
      obtain ⟨HB, hz0, hz, hc, hf⟩ := bst (w0 := w) (by go_grown) hb; clear hb; (try simp at hz); (first | ((refine HS.g5 (m := w6.heap.size) ?_ ?_); (focus omega); intro HS) | ((refine HS.g4 (m := w6.heap.size) ?_ ?_); (focus omega); intro HS) | ((refine HS.g3 (m := w6.heap.size) ?_ ?_); (focus omega); intro HS) | ((refine HS.g2 (m := w6.heap.size) ?_ ?_); (focus omega); intro HS) | ((refine HS.g1 (m := w6.heap.size) ?_ ?_); (focus omega); intro HS) | ((refine HS.g0 (m := w6.heap.size) ?_ ?_); (focus omega); intro HS)); have HU := HS; simp only [AllLt] at HU
      go_wp2_with (first | (go_at_call 23; (with_reducible refine (eqPN_same _ _ _).mono ?_); rintro e w' ⟨rfl, hb⟩; obtain ⟨HB, hz0, hz, hc, hf⟩ := bst (w0 := w) (by go_grown) hb; clear hb; (try simp at hz); (first | ((refine HS.g5 (m := w'.heap.size) ?_ ?_); (focus omega); intro HS) | ((refine HS.g4 (m := w'.heap.size) ?_ ?_); (focus omega); intro HS) | ((refine HS.g3 (m := w'.heap.size) ?_ ?_); (focus omega); intro HS) | ((refine HS.g2 (m := w'.heap.size) ?_ ?_); (focus omega); intro HS) | ((refine HS.g1 (m := w'.heap.size) ?_ ?_); (focus omega); intro HS) | ((refine HS.g0 (m := w'.heap.size) ?_ ?_); (focus omega); intro HS)); have HU := HS; simp only [AllLt] at HU))
      go_ret
      exact ⟨rfl, by (repeat' (first | (with_reducible exact Below.refl _ _) | (with_reducible refine Below.setCell ?_ ?_ _) | (with_reducible refine below_drewN' ?_ _) | (with_reducible refine below_drew' ?_) | (with_reducible refine Below.alloc ?_ ?_ _) | (with_reducible assumption) | go_size))⟩
  · have HS := AllLt.start w; have hn2 := lt2; have hn3 := lt3; have hn4 := lt4; go_enter Tryd.func10, Tryd.ntmps10
    go_wp2_with (first | (go_at_call 15; (with_reducible refine (szPN_off a00 a01 hs w01 _).mono ?_); rintro e w' ⟨rfl, hb⟩; obtain ⟨HB, hz0, hz, hc, hf⟩ := bst (w0 := w) (by go_grown) hb; clear hb; (try simp at hz); (first | ((refine HS.g5 (m := w'.heap.size) ?_ ?_); (focus omega); intro HS) | ((refine HS.g4 (m := w'.heap.size) ?_ ?_); (focus omega); intro HS) | ((refine HS.g3 (m := w'.heap.size) ?_ ?_); (focus omega); intro HS) | ((refine HS.g2 (m := w'.heap.size) ?_ ?_); (focus omega); intro HS) | ((refine HS.g1 (m := w'.heap.size) ?_ ?_); (focus omega); intro HS) | ((refine HS.g0 (m := w'.heap.size) ?_ ?_); (focus omega); intro HS)); have HU := HS; simp only [AllLt] at HU))
    go_ret
    exact ⟨rfl, by (repeat' (first | (with_reducible exact Below.refl _ _) | (with_reducible refine Below.setCell ?_ ?_ _) | (with_reducible refine below_drewN' ?_ _) | (with_reducible refine below_drew' ?_) | (with_reducible refine Below.alloc ?_ ?_ _) | (with_reducible assumption) | go_size))⟩
set_option maxHeartbeats 1000000 in
theorem walk_FnExactPointsConsistent (a00 : Int) (a01 : ByteArray) (w : World) (w00 : (Lit.int .i64 a00).wf = true) (w01 : a01.size ≤ maxLen) (hT : TO w) :
    Calls Tryd.prog 11 #[.agg #[.int .i64 a00, .string a01]] w fun e w' => e = .returned (.bool true) ∧ Below w.heap.size w w' := by
  have HT := hid hT
  clear hT w00
  by_cases hs : a01.size ≤ 1048576
  · have h0 : decide ((1048576 : Int) - (a01.size : Int) < 0) = false := by simp; omega
    have h1 : decide ((1048576 : Int) < (a01.size : Int)) = false := by simp; omega
    clear w01
    rcases PV_cases a00 a01 with h | ⟨n, N, hN, rfl, rfl⟩
    · have HS0 := hid (sPointsCons_no a00 a01 h)
      have HI0 := hid (iPointsCons_no a00 a01 h)
      clear h
      have HS := AllLt.start w; have hn2 := lt2; have hn3 := lt3; have hn4 := lt4; go_enter Tryd.func11, Tryd.ntmps11
      go_wp2_with (first | (go_at_call 15; (with_reducible refine (szPN_on a00 a01 hs _).mono ?_); rintro e w' ⟨rfl, hb⟩; obtain ⟨HB, hz0, hz, hc, hf⟩ := bst (w0 := w) (by go_grown) hb; clear hb; (try simp at hz); (first | ((refine HS.g5 (m := w'.heap.size) ?_ ?_); (focus omega); intro HS) | ((refine HS.g4 (m := w'.heap.size) ?_ ?_); (focus omega); intro HS) | ((refine HS.g3 (m := w'.heap.size) ?_ ?_); (focus omega); intro HS) | ((refine HS.g2 (m := w'.heap.size) ?_ ?_); (focus omega); intro HS) | ((refine HS.g1 (m := w'.heap.size) ?_ ?_); (focus omega); intro HS) | ((refine HS.g0 (m := w'.heap.size) ?_ ?_); (focus omega); intro HS)); have HU := HS; simp only [AllLt] at HU) | (go_at_call 17; (with_reducible refine (toPN_any _ _ _).mono ?_); rintro e w' ⟨rfl, hb⟩; obtain ⟨HB, hz0, hz, hc, hf⟩ := bst (w0 := w) (by go_grown) hb; clear hb; (try simp at hz); (first | ((refine HS.g5 (m := w'.heap.size) ?_ ?_); (focus omega); intro HS) | ((refine HS.g4 (m := w'.heap.size) ?_ ?_); (focus omega); intro HS) | ((refine HS.g3 (m := w'.heap.size) ?_ ?_); (focus omega); intro HS) | ((refine HS.g2 (m := w'.heap.size) ?_ ?_); (focus omega); intro HS) | ((refine HS.g1 (m := w'.heap.size) ?_ ?_); (focus omega); intro HS) | ((refine HS.g0 (m := w'.heap.size) ?_ ?_); (focus omega); intro HS)); have HU := HS; simp only [AllLt] at HU) | (go_at_call 39; (with_reducible refine (HS0.out _).mono ?_); rintro e w' ⟨rfl, hb⟩; obtain ⟨HB, hz0, hz, hc, hf⟩ := bst (w0 := w) (by go_grown) hb; clear hb; (try simp at hz); (first | ((refine HS.g5 (m := w'.heap.size) ?_ ?_); (focus omega); intro HS) | ((refine HS.g4 (m := w'.heap.size) ?_ ?_); (focus omega); intro HS) | ((refine HS.g3 (m := w'.heap.size) ?_ ?_); (focus omega); intro HS) | ((refine HS.g2 (m := w'.heap.size) ?_ ?_); (focus omega); intro HS) | ((refine HS.g1 (m := w'.heap.size) ?_ ?_); (focus omega); intro HS) | ((refine HS.g0 (m := w'.heap.size) ?_ ?_); (focus omega); intro HS)); have HU := HS; simp only [AllLt] at HU) | (go_at_call 40; (with_reducible refine (HI0.out _ (HT.out.below (by go_grown))).mono ?_); rintro e w' ⟨rfl, hb⟩; obtain ⟨HB, hz0, hz, hc, hf⟩ := bst (w0 := w) (by go_grown) hb; clear hb; (try simp at hz); (first | ((refine HS.g5 (m := w'.heap.size) ?_ ?_); (focus omega); intro HS) | ((refine HS.g4 (m := w'.heap.size) ?_ ?_); (focus omega); intro HS) | ((refine HS.g3 (m := w'.heap.size) ?_ ?_); (focus omega); intro HS) | ((refine HS.g2 (m := w'.heap.size) ?_ ?_); (focus omega); intro HS) | ((refine HS.g1 (m := w'.heap.size) ?_ ?_); (focus omega); intro HS) | ((refine HS.g0 (m := w'.heap.size) ?_ ?_); (focus omega); intro HS)); have HU := HS; simp only [AllLt] at HU))
      go_ret
      exact ⟨rfl, by (repeat' (first | (with_reducible exact Below.refl _ _) | (with_reducible refine Below.setCell ?_ ?_ _) | (with_reducible refine below_drewN' ?_ _) | (with_reducible refine below_drew' ?_) | (with_reducible refine Below.alloc ?_ ?_ _) | (with_reducible assumption) | go_size))⟩
    · have HS0 := hid (sPointsCons_yes n N hN)
      have HI0 := hid (iPointsCons_yes n N hN)
      have HPC := hid (fun (C D : Nat → Nat → Nat) (h1 : IsClo n N C) (h2 : IsClo n N D) => show empQ n C = empQ n D from by
        have e1 := empQ_iff h1.ok
        have e2 := empQ_iff h2.ok
        rw [Bool.eq_iff_iff, ← Bool.not_eq_false, ← Bool.not_eq_false (empQ n D), e1, e2]
        constructor
        · intro hh hd
          exact hh fun a b ha hb => by rw [h1.uniq h2 ha hb]; exact hd a b ha hb
        · intro hh hd
          exact hh fun a b ha hb => by rw [← h1.uniq h2 ha hb]; exact hd a b ha hb)
      generalize pntS n N = s at *
      have HS := AllLt.start w; have hn2 := lt2; have hn3 := lt3; have hn4 := lt4; go_enter Tryd.func11, Tryd.ntmps11
      go_wp2_with (first | (go_at_call 15; (with_reducible refine (szPN_on _ s hs _).mono ?_); rintro e w' ⟨rfl, hb⟩; obtain ⟨HB, hz0, hz, hc, hf⟩ := bst (w0 := w) (by go_grown) hb; clear hb; (try simp at hz); (first | ((refine HS.g5 (m := w'.heap.size) ?_ ?_); (focus omega); intro HS) | ((refine HS.g4 (m := w'.heap.size) ?_ ?_); (focus omega); intro HS) | ((refine HS.g3 (m := w'.heap.size) ?_ ?_); (focus omega); intro HS) | ((refine HS.g2 (m := w'.heap.size) ?_ ?_); (focus omega); intro HS) | ((refine HS.g1 (m := w'.heap.size) ?_ ?_); (focus omega); intro HS) | ((refine HS.g0 (m := w'.heap.size) ?_ ?_); (focus omega); intro HS)); have HU := HS; simp only [AllLt] at HU) | (go_at_call 17; (with_reducible refine (toPN_any _ _ _).mono ?_); rintro e w' ⟨rfl, hb⟩; obtain ⟨HB, hz0, hz, hc, hf⟩ := bst (w0 := w) (by go_grown) hb; clear hb; (try simp at hz); (first | ((refine HS.g5 (m := w'.heap.size) ?_ ?_); (focus omega); intro HS) | ((refine HS.g4 (m := w'.heap.size) ?_ ?_); (focus omega); intro HS) | ((refine HS.g3 (m := w'.heap.size) ?_ ?_); (focus omega); intro HS) | ((refine HS.g2 (m := w'.heap.size) ?_ ?_); (focus omega); intro HS) | ((refine HS.g1 (m := w'.heap.size) ?_ ?_); (focus omega); intro HS) | ((refine HS.g0 (m := w'.heap.size) ?_ ?_); (focus omega); intro HS)); have HU := HS; simp only [AllLt] at HU))
      (with_reducible refine (HS0.out _).mono ?_)
      rintro e w5 ⟨⟨C, hC, rfl⟩, hb⟩
      have HC := hid hC
      clear hC
      obtain ⟨HB, hz0, hz, hc, hf⟩ := bst (w0 := w) (by go_grown) hb; clear hb; (try simp at hz); (first | ((refine HS.g5 (m := w5.heap.size) ?_ ?_); (focus omega); intro HS) | ((refine HS.g4 (m := w5.heap.size) ?_ ?_); (focus omega); intro HS) | ((refine HS.g3 (m := w5.heap.size) ?_ ?_); (focus omega); intro HS) | ((refine HS.g2 (m := w5.heap.size) ?_ ?_); (focus omega); intro HS) | ((refine HS.g1 (m := w5.heap.size) ?_ ?_); (focus omega); intro HS) | ((refine HS.g0 (m := w5.heap.size) ?_ ?_); (focus omega); intro HS)); have HU := HS; simp only [AllLt] at HU
      go_wp2_with (first | (go_at_call 17; (with_reducible refine (toPN_any _ _ _).mono ?_); rintro e w' ⟨rfl, hb⟩; obtain ⟨HB, hz0, hz, hc, hf⟩ := bst (w0 := w) (by go_grown) hb; clear hb; (try simp at hz); (first | ((refine HS.g5 (m := w'.heap.size) ?_ ?_); (focus omega); intro HS) | ((refine HS.g4 (m := w'.heap.size) ?_ ?_); (focus omega); intro HS) | ((refine HS.g3 (m := w'.heap.size) ?_ ?_); (focus omega); intro HS) | ((refine HS.g2 (m := w'.heap.size) ?_ ?_); (focus omega); intro HS) | ((refine HS.g1 (m := w'.heap.size) ?_ ?_); (focus omega); intro HS) | ((refine HS.g0 (m := w'.heap.size) ?_ ?_); (focus omega); intro HS)); have HU := HS; simp only [AllLt] at HU))
      (with_reducible refine (HI0.out _ (HT.out.below (by go_grown))).mono ?_)
      rintro e w6 ⟨⟨D, hD, rfl⟩, hb⟩
      rw [HPC.out D C hD HC.out]
      clear hD
      obtain ⟨HB, hz0, hz, hc, hf⟩ := bst (w0 := w) (by go_grown) hb; clear hb; (try simp at hz); (first | ((refine HS.g5 (m := w6.heap.size) ?_ ?_); (focus omega); intro HS) | ((refine HS.g4 (m := w6.heap.size) ?_ ?_); (focus omega); intro HS) | ((refine HS.g3 (m := w6.heap.size) ?_ ?_); (focus omega); intro HS) | ((refine HS.g2 (m := w6.heap.size) ?_ ?_); (focus omega); intro HS) | ((refine HS.g1 (m := w6.heap.size) ?_ ?_); (focus omega); intro HS) | ((refine HS.g0 (m := w6.heap.size) ?_ ?_); (focus omega); intro HS)); have HU := HS; simp only [AllLt] at HU
      go_wp2_with fail
      go_ret
      exact ⟨rfl, by (repeat' (first | (with_reducible exact Below.refl _ _) | (with_reducible refine Below.setCell ?_ ?_ _) | (with_reducible refine below_drewN' ?_ _) | (with_reducible refine below_drew' ?_) | (with_reducible refine Below.alloc ?_ ?_ _) | (with_reducible assumption) | go_size))⟩
  · have HS := AllLt.start w; have hn2 := lt2; have hn3 := lt3; have hn4 := lt4; go_enter Tryd.func11, Tryd.ntmps11
    go_wp2_with (first | (go_at_call 15; (with_reducible refine (szPN_off a00 a01 hs w01 _).mono ?_); rintro e w' ⟨rfl, hb⟩; obtain ⟨HB, hz0, hz, hc, hf⟩ := bst (w0 := w) (by go_grown) hb; clear hb; (try simp at hz); (first | ((refine HS.g5 (m := w'.heap.size) ?_ ?_); (focus omega); intro HS) | ((refine HS.g4 (m := w'.heap.size) ?_ ?_); (focus omega); intro HS) | ((refine HS.g3 (m := w'.heap.size) ?_ ?_); (focus omega); intro HS) | ((refine HS.g2 (m := w'.heap.size) ?_ ?_); (focus omega); intro HS) | ((refine HS.g1 (m := w'.heap.size) ?_ ?_); (focus omega); intro HS) | ((refine HS.g0 (m := w'.heap.size) ?_ ?_); (focus omega); intro HS)); have HU := HS; simp only [AllLt] at HU))
    go_ret
    exact ⟨rfl, by (repeat' (first | (with_reducible exact Below.refl _ _) | (with_reducible refine Below.setCell ?_ ?_ _) | (with_reducible refine below_drewN' ?_ _) | (with_reducible refine below_drew' ?_) | (with_reducible refine Below.alloc ?_ ?_ _) | (with_reducible assumption) | go_size))⟩
end Go.Proofs.YtmdgkhebefnfeaaDoor.C
