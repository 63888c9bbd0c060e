/- Networks with another relation of two nodes: the model, the exact laws. -/
import Derived.Test.YtnogdjmciekieabDoorNetO
namespace Go.Proofs.YtnogdjmciekieabDoor.C
open Go.RowKit
set_option linter.unusedVariables false
set_option linter.unusedSimpArgs false
theorem rowL_one (L : Nat → Nat) (m : Nat) : ∀ u ∈ rowL L m, u.oneCell' = true := by
  intro u hu
  simp only [rowL, List.mem_map] at hu
  obtain ⟨x, _, rfl⟩ := hu
  rfl
theorem put_row {n : Nat} {R : Nat → Nat → Nat} {i k r : Nat} (hi : i < n) (hk : k < n) (hne : i ≠ k) {x : Nat} (hx : x < n * n) :
    updL (updL (fun x => R (x / n) (x % n)) (i * n + k) r) (k * n + i) (turN r) x = (fun x => putR R i k r (x / n) (x % n)) x := by
  have h1 := at_div (i := i) hk
  have h2 := at_div (i := k) hi
  have h3 : x / n * n + x % n = x := by rw [Nat.mul_comm]; exact Nat.div_add_mod x n
  have E1 : (x / n = k ∧ x % n = i) ↔ x = k * n + i := ⟨fun h => by rw [← h3, h.1, h.2], fun h => by rw [h]; exact h2⟩
  have E2 : (x / n = i ∧ x % n = k) ↔ x = i * n + k := ⟨fun h => by rw [← h3, h.1, h.2], fun h => by rw [h]; exact h1⟩
  unfold updL putR upd
  simp only [E1, E2]
theorem own_far {w : World} {b e size n g cap : Nat} {xs : List Value} (h : w.ownsRow b e size (.slice (some ⟨g, 0, none⟩) n cap) n xs) {p : Addr} (hp : g ≠ p.block) (u : Value) : (w.setCell p u).ownsRow b e size (.slice (some ⟨g, 0, none⟩) n cap) n xs := by
  obtain ⟨h1, h2⟩ := h
  refine ⟨h1, h2.imp id ?_⟩
  rintro ⟨g', cap', cur, hv, hB, hg, r⟩
  cases hv
  exact ⟨g, cap, cur, rfl, hB, (heap_setCell_other w p g u hp).trans hg, r⟩
theorem Tk.set0 {w : World} {g : Nat} {z z' : Int} {v : Value} (h : Tk w g z v) : Tk (w.setCell ⟨g, 0, none⟩ (.int .i64 z')) g z' v := by
  unfold Tk
  rw [heap_setCell_same w g _ _ _ _ h]; rfl
theorem tk_set {w : World} {g : Nat} {z : Int} {v : Value} (h : Tk w g z v) (p : Addr) (hp : g ≠ p.block) (u : Value) : Tk (w.setCell p u) g z v := h.far hp u
set_option maxHeartbeats 4000000 in
set_option maxRecDepth 100000 in
theorem l5Put_any (n : Nat) (h6 : n ≤ 6) (L : Nat → Nat) (i k r : Nat) (hi : i < n) (hk : k < n) (hr : r < 8192) (b : Nat) (u : Value) (w : World) (hO : w.ownsRow b 3 1 u (n * n) (rowL L (n * n))) :
    Calls Tryd.prog 54 #[.agg #[.int .i64 n, u], .int .i64 i, .int .i64 k, .int .i64 r] w fun e w' => (∃ u', e = .returned (.agg #[.int .i64 n, u']) ∧ w'.ownsRow (w.heap.size + 1 + 1) 3 1 u' (n * n) (rowL (updL (updL L (i * n + k) r) (k * n + i) (turN r)) (n * n))) ∧ Below w.heap.size w w' := by
  obtain ⟨i0, hi0, hz0, hz1, hz2⟩ := info_parts netInt
  have hx36 := at_lt hi hk
  have hy36 := at_lt hk hi
  have h36 : n * n ≤ 36 := Nat.mul_le_mul h6 h6
  obtain ⟨g, cap, rfl, hgb, hgl⟩ := hO.form (by omega)
  obtain ⟨x, hx⟩ : ∃ x : Nat, x = i * n := ⟨_, rfl⟩
  obtain ⟨y, hy⟩ : ∃ y : Nat, y = k * n := ⟨_, rfl⟩
  have hmul : (i : Int) * (n : Int) = (x : Int) := by rw [hx]; push_cast; rfl
  have hmuy : (k : Int) * (n : Int) = (y : Int) := by rw [hy]; push_cast; rfl
  rw [← hx, ← hy]
  rw [← hx] at hx36
  rw [← hy] at hy36
  clear hx hy
  have hw2 : ((w.alloc (.cells #[.int .i64 n, .slice (some ⟨g, 0, none⟩) (n * n) cap] 85)).alloc (.cells #[.int .i64 0, .slice none 0 0] 85)).heap.size = w.heap.size + 1 + 1 := by rw [World.size_alloc, World.size_alloc]
  generalize n * n = nn at *
  have HA := hid ((Tk.made w n (.slice (some ⟨g, 0, none⟩) nn cap)).alloc (.cells #[.int .i64 0, .slice none 0 0] 85))
  have HR := hid (show Tk ((w.alloc (.cells #[.int .i64 n, .slice (some ⟨g, 0, none⟩) nn cap] 85)).alloc (.cells #[.int .i64 0, .slice none 0 0] 85)) (w.heap.size + 1) 0 (.slice none 0 0) by
    have h := Tk.made (w.alloc (.cells #[.int .i64 n, .slice (some ⟨g, 0, none⟩) nn cap] 85)) 0 (.slice none 0 0)
    rw [World.size_alloc] at h
    exact h)
  have HB := hid (((Below.refl w.heap.size w).alloc (Nat.le_refl _) (.cells #[.int .i64 n, .slice (some ⟨g, 0, none⟩) nn cap] 85)).alloc (by simp) (.cells #[.int .i64 0, .slice none 0 0] 85))
  have HO := hid (own_below' hO HB.out)
  clear hO
  have HS := AllLt.start w; go_enter Tryd.func54, Tryd.ntmps54
  go_upto_region 1 with fail
  generalize (w.alloc (.cells #[.int .i64 n, .slice (some ⟨g, 0, none⟩) nn cap] 85)).alloc (.cells #[.int .i64 0, .slice none 0 0] 85) = w2 at *
  have a0 := HA.out.c0
  have a1 := HA.out.c1
  have hAl : w.heap.size < w2.heap.size := by omega
  have hAn : ¬ w.heap.size = w2.heap.size := by omega
  have HE0 := hid (show (w2.alloc (.cells #[] 3)).ownsRow (w.heap.size + 1 + 1) 3 1 (.slice (some ⟨w.heap.size + 1 + 1, 0, none⟩) 0 0) 0 [] by
    have h := World.ownsRow_made (base := w.heap.size + 1 + 1) (e := 3) (size := 1) w2 #[] 0 (by omega) (by decide) rfl
    rw [hw2] at h
    exact h)
  have HE1 := hid (show ((w2.alloc (.cells #[.int .i64 0, .slice none 0 0] 85)).alloc (.cells #[] 3)).ownsRow (w.heap.size + 1 + 1) 3 1 (.slice (some ⟨w.heap.size + 1 + 1 + 1, 0, none⟩) 0 0) 0 [] by
    have h := World.ownsRow_made (base := w.heap.size + 1 + 1) (e := 3) (size := 1) (w2.alloc (.cells #[.int .i64 0, .slice none 0 0] 85)) #[] 0 (by rw [World.size_alloc]; omega) (by decide) rfl
    rw [World.size_alloc, hw2] at h
    exact h)
  have HTX := hid (show Tk ((w2.alloc (.cells #[] 3)).alloc (.cells #[.int .i64 0, .slice none 0 0] 85)) (w.heap.size + 1 + 1 + 1) 0 (.slice none 0 0) by
    have h := Tk.made (w2.alloc (.cells #[] 3)) 0 (.slice none 0 0)
    rw [World.size_alloc, hw2] at h
    exact h)
  have HTY := hid (show Tk ((w2.alloc (.cells #[.int .i64 0, .slice none 0 0] 85)).alloc (.cells #[] 3)) (w.heap.size + 1 + 1) 0 (.slice none 0 0) by
    have h := (Tk.made w2 0 (.slice none 0 0)).alloc (.cells #[] 3)
    rw [hw2] at h
    exact h)
  go_region_held3 (fun wx => wx.cell? ⟨w.heap.size, 0, none⟩ = some (.int .i64 (n : Int)) ∧ wx.cell? ⟨w.heap.size, 1, none⟩ = some (.slice (some ⟨g, 0, none⟩) nn cap)) (first | exact ⟨a5, a6⟩ | exact ⟨(tk_set (tk_set HA3.out _ (by first | (show w.heap.size ≠ w.heap.size + 1 + 1 + 1; omega) | (show w.heap.size ≠ w.heap.size + 1 + 1; omega)) _) _ (by first | (show w.heap.size ≠ w.heap.size + 1 + 1 + 1; omega) | (show w.heap.size ≠ w.heap.size + 1 + 1; omega)) _).c0, (tk_set (tk_set HA3.out _ (by first | (show w.heap.size ≠ w.heap.size + 1 + 1 + 1; omega) | (show w.heap.size ≠ w.heap.size + 1 + 1; omega)) _) _ (by first | (show w.heap.size ≠ w.heap.size + 1 + 1 + 1; omega) | (show w.heap.size ≠ w.heap.size + 1 + 1; omega)) _).c1⟩ | (have hp := HA.out.below (show Below w2.heap.size w2 _ from by (repeat' (first | (with_reducible exact Below.refl _ _) | (with_reducible refine Below.setCell ?_ ?_ _) | (with_reducible refine below_drewN' ?_ _) | (with_reducible refine below_drew' ?_) | (with_reducible refine Below.alloc ?_ ?_ _) | (with_reducible assumption) | go_size))) hAl; exact ⟨hp.c0, hp.c1⟩) | (have hp := HA3.out.below (show Below w3.heap.size w3 _ from by (repeat' (first | (with_reducible exact Below.refl _ _) | (with_reducible refine Below.setCell ?_ ?_ _) | (with_reducible refine below_drewN' ?_ _) | (with_reducible refine below_drew' ?_) | (with_reducible refine Below.alloc ?_ ?_ _) | (with_reducible assumption) | go_size))) HA3.out.lt; exact ⟨hp.c0, hp.c1⟩) | go_keep)
    (first
        | (refine step_append_lies _ (by rfl) _ _ 83 (by rfl) (w.heap.size + 1 + 1) 3 i0 _ 1 8 Tryd.underlying83 hi0 hz0 hz1 hz2 rfl (by decide) (.slice (some ⟨w.heap.size + 1 + 1, 0, none⟩) 0 0) 0 [] (by rfl) (own_below' HE0.out (by (repeat' (first | (with_reducible exact Below.refl _ _) | (with_reducible refine Below.setCell ?_ ?_ _) | (with_reducible refine below_drewN' ?_ _) | (with_reducible refine below_drew' ?_) | (with_reducible refine Below.alloc ?_ ?_ _) | (with_reducible assumption) | go_size)))) ⟨g, 0, none⟩ nn cap (rowL L nn) (by rfl) (by simp [rowL]) ((own_below' HO.out (by (repeat' (first | (with_reducible exact Below.refl _ _) | (with_reducible refine Below.setCell ?_ ?_ _) | (with_reducible refine below_drewN' ?_ _) | (with_reducible refine below_drew' ?_) | (with_reducible refine Below.alloc ?_ ?_ _) | (with_reducible assumption) | go_size)))).cells (g := g) rfl) (rowL_one L nn) (by omega) (by unfold maxLen; omega) (by omega) (by simp; omega) (w.heap.size + 1 + 1 + 1 + 1) (by simp; omega) ?_
           intro g3 cap3 w3 hown hgrow hat hlt3
           have HA3 := hid (tk_grown HA.out hgrow (by (repeat' (first | (with_reducible exact Below.refl _ _) | (with_reducible refine Below.setCell ?_ ?_ _) | (with_reducible refine below_drewN' ?_ _) | (with_reducible refine below_drew' ?_) | (with_reducible refine Below.alloc ?_ ?_ _) | (with_reducible assumption) | go_size))) (show some w.heap.size ≠ some (w.heap.size + 1 + 1) from fun e => by injection e; omega))
           have HR3 := hid (tk_grown HR.out hgrow (by (repeat' (first | (with_reducible exact Below.refl _ _) | (with_reducible refine Below.setCell ?_ ?_ _) | (with_reducible refine below_drewN' ?_ _) | (with_reducible refine below_drew' ?_) | (with_reducible refine Below.alloc ?_ ?_ _) | (with_reducible assumption) | go_size))) (show some (w.heap.size + 1) ≠ some (w.heap.size + 1 + 1) from fun e => by injection e; omega))
           have HB3 := hid ((HB.out.trans (Below.mono (show Below w2.heap.size w2 _ from by (repeat' (first | (with_reducible exact Below.refl _ _) | (with_reducible refine Below.setCell ?_ ?_ _) | (with_reducible refine below_drewN' ?_ _) | (with_reducible refine below_drew' ?_) | (with_reducible refine Below.alloc ?_ ?_ _) | (with_reducible assumption) | go_size))) HB.out.size)).grown hgrow (by simp; omega) (fun j hj => by
             have : w.heap.size + 1 + 1 = j := by injection hj
             omega))
           have HO3 := hid (show w3.ownsRow (w.heap.size + 1 + 1) 3 1 (.slice (some ⟨g3, 0, none⟩) nn cap3) nn (rowL L nn) by simpa using hown)
           have hg3 : g3 = w.heap.size + 1 + 1 ∨ g3 = w.heap.size + 1 + 1 + 1 + 1 := by
             rcases hat with h | h
             · injection h with h; exact .inl h.symm
             · exact .inr h
           have a5 := HA3.out.c0
           have a6 := HA3.out.c1
           have HT3 := hid (show Tk w3 (w.heap.size + 1 + 1 + 1) 0 (.slice none 0 0) from (hgrow.block _ (by simp; omega) (show some (w.heap.size + 1 + 1 + 1) ≠ some (w.heap.size + 1 + 1) from fun e => by injection e; omega)).trans HTX.out)
           have e0 := HT3.out.c0
           have e1 := HT3.out.c1
           have ef0 := HT3.out.fr 0
           have ef1 := HT3.out.fr 1
           clear hown hgrow hat)
        | (refine step_append_lies _ (by rfl) _ _ 83 (by rfl) (w.heap.size + 1 + 1) 3 i0 _ 1 8 Tryd.underlying83 hi0 hz0 hz1 hz2 rfl (by decide) (.slice (some ⟨w.heap.size + 1 + 1 + 1, 0, none⟩) 0 0) 0 [] (by rfl) (own_below' HE1.out (by (repeat' (first | (with_reducible exact Below.refl _ _) | (with_reducible refine Below.setCell ?_ ?_ _) | (with_reducible refine below_drewN' ?_ _) | (with_reducible refine below_drew' ?_) | (with_reducible refine Below.alloc ?_ ?_ _) | (with_reducible assumption) | go_size)))) ⟨g, 0, none⟩ nn cap (rowL L nn) (by rfl) (by simp [rowL]) ((own_below' HO.out (by (repeat' (first | (with_reducible exact Below.refl _ _) | (with_reducible refine Below.setCell ?_ ?_ _) | (with_reducible refine below_drewN' ?_ _) | (with_reducible refine below_drew' ?_) | (with_reducible refine Below.alloc ?_ ?_ _) | (with_reducible assumption) | go_size)))).cells (g := g) rfl) (rowL_one L nn) (by omega) (by unfold maxLen; omega) (by omega) (by simp; omega) (w.heap.size + 1 + 1 + 1 + 1) (by simp; omega) ?_
           intro g3 cap3 w3 hown hgrow hat hlt3
           have HA3 := hid (tk_grown HA.out hgrow (by (repeat' (first | (with_reducible exact Below.refl _ _) | (with_reducible refine Below.setCell ?_ ?_ _) | (with_reducible refine below_drewN' ?_ _) | (with_reducible refine below_drew' ?_) | (with_reducible refine Below.alloc ?_ ?_ _) | (with_reducible assumption) | go_size))) (show some w.heap.size ≠ some (w.heap.size + 1 + 1 + 1) from fun e => by injection e; omega))
           have HR3 := hid (tk_grown HR.out hgrow (by (repeat' (first | (with_reducible exact Below.refl _ _) | (with_reducible refine Below.setCell ?_ ?_ _) | (with_reducible refine below_drewN' ?_ _) | (with_reducible refine below_drew' ?_) | (with_reducible refine Below.alloc ?_ ?_ _) | (with_reducible assumption) | go_size))) (show some (w.heap.size + 1) ≠ some (w.heap.size + 1 + 1 + 1) from fun e => by injection e; omega))
           have HB3 := hid ((HB.out.trans (Below.mono (show Below w2.heap.size w2 _ from by (repeat' (first | (with_reducible exact Below.refl _ _) | (with_reducible refine Below.setCell ?_ ?_ _) | (with_reducible refine below_drewN' ?_ _) | (with_reducible refine below_drew' ?_) | (with_reducible refine Below.alloc ?_ ?_ _) | (with_reducible assumption) | go_size))) HB.out.size)).grown hgrow (by simp; omega) (fun j hj => by
             have : w.heap.size + 1 + 1 + 1 = j := by injection hj
             omega))
           have HO3 := hid (show w3.ownsRow (w.heap.size + 1 + 1) 3 1 (.slice (some ⟨g3, 0, none⟩) nn cap3) nn (rowL L nn) by simpa using hown)
           have hg3 : g3 = w.heap.size + 1 + 1 + 1 ∨ g3 = w.heap.size + 1 + 1 + 1 + 1 := by
             rcases hat with h | h
             · injection h with h; exact .inl h.symm
             · exact .inr h
           have a5 := HA3.out.c0
           have a6 := HA3.out.c1
           have HT3 := hid (show Tk w3 (w.heap.size + 1 + 1) 0 (.slice none 0 0) from (hgrow.block _ (by simp; omega) (show some (w.heap.size + 1 + 1) ≠ some (w.heap.size + 1 + 1 + 1) from fun e => by injection e; omega)).trans HTY.out)
           have e0 := HT3.out.c0
           have e1 := HT3.out.c1
           have ef0 := HT3.out.fr 0
           have ef1 := HT3.out.fr 1
           clear hown hgrow hat)
        | (refine step_append_lies _ (by rfl) _ _ 83 (by rfl) (w.heap.size + 1 + 1) 3 i0 _ 1 8 Tryd.underlying83 hi0 hz0 hz1 hz2 rfl (by decide) (.slice (some ⟨w.heap.size + 1 + 1, 0, none⟩) 0 0) 0 [] (by rfl) (own_below' HE0.out (by (repeat' (first | (with_reducible exact Below.refl _ _) | (with_reducible refine Below.setCell ?_ ?_ _) | (with_reducible refine below_drewN' ?_ _) | (with_reducible refine below_drew' ?_) | (with_reducible refine Below.alloc ?_ ?_ _) | (with_reducible assumption) | go_size)))) ⟨g, 0, none⟩ nn cap (rowL L nn) (by rfl) (by simp [rowL]) ((own_below' HO.out (by (repeat' (first | (with_reducible exact Below.refl _ _) | (with_reducible refine Below.setCell ?_ ?_ _) | (with_reducible refine below_drewN' ?_ _) | (with_reducible refine below_drew' ?_) | (with_reducible refine Below.alloc ?_ ?_ _) | (with_reducible assumption) | go_size)))).cells (g := g) rfl) (rowL_one L nn) (by omega) (by unfold maxLen; omega) (by omega) (by simp; omega) (w.heap.size + 1 + 1 + 1) (by simp; omega) ?_
           intro g3 cap3 w3 hown hgrow hat hlt3
           have HA3 := hid (tk_grown HA.out hgrow (by (repeat' (first | (with_reducible exact Below.refl _ _) | (with_reducible refine Below.setCell ?_ ?_ _) | (with_reducible refine below_drewN' ?_ _) | (with_reducible refine below_drew' ?_) | (with_reducible refine Below.alloc ?_ ?_ _) | (with_reducible assumption) | go_size))) (show some w.heap.size ≠ some (w.heap.size + 1 + 1) from fun e => by injection e; omega))
           have HR3 := hid (tk_grown HR.out hgrow (by (repeat' (first | (with_reducible exact Below.refl _ _) | (with_reducible refine Below.setCell ?_ ?_ _) | (with_reducible refine below_drewN' ?_ _) | (with_reducible refine below_drew' ?_) | (with_reducible refine Below.alloc ?_ ?_ _) | (with_reducible assumption) | go_size))) (show some (w.heap.size + 1) ≠ some (w.heap.size + 1 + 1) from fun e => by injection e; omega))
           have HB3 := hid ((HB.out.trans (Below.mono (show Below w2.heap.size w2 _ from by (repeat' (first | (with_reducible exact Below.refl _ _) | (with_reducible refine Below.setCell ?_ ?_ _) | (with_reducible refine below_drewN' ?_ _) | (with_reducible refine below_drew' ?_) | (with_reducible refine Below.alloc ?_ ?_ _) | (with_reducible assumption) | go_size))) HB.out.size)).grown hgrow (by simp; omega) (fun j hj => by
             have : w.heap.size + 1 + 1 = j := by injection hj
             omega))
           have HO3 := hid (show w3.ownsRow (w.heap.size + 1 + 1) 3 1 (.slice (some ⟨g3, 0, none⟩) nn cap3) nn (rowL L nn) by simpa using hown)
           have hg3 : g3 = w.heap.size + 1 + 1 ∨ g3 = w.heap.size + 1 + 1 + 1 := by
             rcases hat with h | h
             · injection h with h; exact .inl h.symm
             · exact .inr h
           have a5 := HA3.out.c0
           have a6 := HA3.out.c1
           have HT2 := hid (show w.heap.size + 1 + 1 ≤ w3.heap.size by have := hgrow.size; simp at this; omega)
           clear hown hgrow hat)
        | fail)
  · go_upto_region 2 with fail
    have hgT : g3 ≠ w3.heap.size := by omega
    have hTA : w.heap.size + 1 < w3.heap.size := by have := HT2.out; omega
    have HAf := hid (HA3.out.alloc (.cells #[.int .i64 (n : Int), (.slice (some ⟨g3, 0, none⟩) nn cap3)] 85))
    have HRf := hid (HR3.out.alloc (.cells #[.int .i64 (n : Int), (.slice (some ⟨g3, 0, none⟩) nn cap3)] 85))
    have HTf := hid (Tk.made w3 n (.slice (some ⟨g3, 0, none⟩) nn cap3))
    have HOf := hid (HO3.out.alloc (.cells #[.int .i64 (n : Int), (.slice (some ⟨g3, 0, none⟩) nn cap3)] 85))
    have HBf := hid (HB3.out.alloc HB3.out.size (.cells #[.int .i64 (n : Int), (.slice (some ⟨g3, 0, none⟩) nn cap3)] 85))
    clear HA HR HB HO HE0 HE1 HTX HTY HA3 HR3 HB3 HO3 HT2 a0 a1 a5 a6 hg3
    generalize w3.alloc (.cells #[.int .i64 (n : Int), (.slice (some ⟨g3, 0, none⟩) nn cap3)] 85) = w4 at *
    generalize w3.heap.size = T at *
    have t1 := HTf.out.c1
    have p0 := HAf.out.c0
    obtain ⟨g', cap', hv, hgb3, hgl3, hc, hf⟩ := row_at HOf.out (j := x + k) hx36
    cases hv
    have i0' : (0 : Int) ≤ (x : Int) + (k : Int) := by omega
    have i1' : (x : Int) + (k : Int) < (nn : Int) := by omega
    have it : ((x : Int) + (k : Int)).toNat = x + k := by omega
    have iw : IntKind.i64.wrap ((x : Int) + (k : Int)) = (x : Int) + (k : Int) := IntWalk.i64_in _ (by omega)
    have hgA : g3 ≠ w.heap.size := by omega
    have hgR : g3 ≠ w.heap.size + 1 := by omega
    have HAg := hid (HAf.out.far (p := ⟨g3, x + k, none⟩) (show w.heap.size ≠ g3 by omega) (.int .i64 (r : Int)))
    have HRg := hid (HRf.out.far (p := ⟨g3, x + k, none⟩) (show w.heap.size + 1 ≠ g3 by omega) (.int .i64 (r : Int)))
    have HTg := hid (HTf.out.far (p := ⟨g3, x + k, none⟩) (show T ≠ g3 from fun e => hgT e.symm) (.int .i64 (r : Int)))
    have HOg := hid (own_put HOf.out (x + k) r)
    have HBg := hid (HBf.out.setCell (p := ⟨g3, x + k, none⟩) (show w.heap.size ≤ g3 by omega) (.int .i64 (r : Int)))
    go_upto_region 3 with fail
    clear t1 p0 hc hf i0' i1' it iw HAf HRf HTf HOf HBf
    generalize w4.setCell ⟨g3, x + k, none⟩ (.int .i64 (r : Int)) = w5 at *
    have t0 := HTg.out.c0
    have t1 := HTg.out.c1
    have p0 := HAg.out.c0
    have r0 := HRg.out.c0
    have r1 := HRg.out.c1
    have rf0 := HRg.out.fr 0
    have rf1 := HRg.out.fr 1
    obtain ⟨g', cap', hv, hgb3, hgl3, hc, hf⟩ := row_at HOg.out (j := y + i) hy36
    cases hv
    have i0' : (0 : Int) ≤ (y : Int) + (i : Int) := by omega
    have i1' : (y : Int) + (i : Int) < (nn : Int) := by omega
    have it : ((y : Int) + (i : Int)).toNat = y + i := by omega
    have iw : IntKind.i64.wrap ((y : Int) + (i : Int)) = (y : Int) + (i : Int) := IntWalk.i64_in _ (by omega)
    have iz1 : ¬ ((y : Int) + (i : Int) < 0) := by omega
    have iz2 : ¬ ((nn : Int) ≤ (y : Int) + (i : Int)) := by omega
    have id0 : decide ((0 : Int) ≤ (y : Int) + (i : Int)) = true := by simp; omega
    have id1 : decide ((y : Int) + (i : Int) < (nn : Int)) = true := by simp; omega
    have id2 : decide (y + i < nn) = true := by simp; omega
    have iwy : IntKind.i64.wrap (y : Int) = (y : Int) := IntWalk.i64_in _ (by omega)
    have n1 : ¬ T = g3 := fun e => hgT e.symm
    have n2 : ¬ g3 = w.heap.size + 1 := hgR
    have n3 : ¬ w.heap.size + 1 = g3 := fun e => hgR e.symm
    have n4 : ¬ g3 = T := hgT
    have n5 : ¬ T = w.heap.size + 1 := by omega
    have n6 : ¬ w.heap.size + 1 = T := by omega
    have HOh := hid (own_put HOg.out (y + i) (turN r))
    have HOi := hid (own_far (own_far HOh.out (p := ⟨w.heap.size + 1, 0, none⟩) n2 (.int .i64 (n : Int))) (p := ⟨w.heap.size + 1, 1, none⟩) n2 (.slice (some ⟨g3, 0, none⟩) nn cap3))
    have HBi := hid (((HBg.out.setCell (p := ⟨g3, y + i, none⟩) (show w.heap.size ≤ g3 by omega) (.int .i64 ((turN r : Nat) : Int))).setCell (p := ⟨w.heap.size + 1, 0, none⟩) (by simp) (.int .i64 (n : Int))).setCell (p := ⟨w.heap.size + 1, 1, none⟩) (by simp) (.slice (some ⟨g3, 0, none⟩) nn cap3))
    have HTN := hid (l3Turn_any r hr)
    go_region_with (first | (go_at_call 95; (with_reducible refine (HTN.out _).mono ?_); rintro e w' ⟨rfl, rfl⟩) | fail)
    all_goals
      go_wp2_with fail
      refine bodyPost_ret (by simp [results, Tryd.results54, go_sem, *]; try rfl) rfl ?_
      exact ⟨⟨_, rfl, HOi.out⟩, (show Below _ _ _ from ⟨HBi.out.os, HBi.out.tape, HBi.out.output, HBi.out.size, HBi.out.block⟩)⟩
  · go_upto_region 2 with fail
    have hgT : g3 ≠ w.heap.size + 1 + 1 + 1 := by omega
    have hTA : w.heap.size + 1 < w.heap.size + 1 + 1 + 1 := by omega
    have HAf := hid ((HA3.out.far (p := ⟨w.heap.size + 1 + 1 + 1, 0, none⟩) (show w.heap.size ≠ w.heap.size + 1 + 1 + 1 by omega) (.int .i64 (n : Int))).far (p := ⟨w.heap.size + 1 + 1 + 1, 1, none⟩) (show w.heap.size ≠ w.heap.size + 1 + 1 + 1 by omega) (.slice (some ⟨g3, 0, none⟩) nn cap3))
    have HRf := hid ((HR3.out.far (p := ⟨w.heap.size + 1 + 1 + 1, 0, none⟩) (show w.heap.size + 1 ≠ w.heap.size + 1 + 1 + 1 by omega) (.int .i64 (n : Int))).far (p := ⟨w.heap.size + 1 + 1 + 1, 1, none⟩) (show w.heap.size + 1 ≠ w.heap.size + 1 + 1 + 1 by omega) (.slice (some ⟨g3, 0, none⟩) nn cap3))
    have HTf := hid ((HT3.out.set0 (z' := (n : Int))).set1 (.slice (some ⟨g3, 0, none⟩) nn cap3))
    have HOf := hid (own_far (own_far HO3.out (p := ⟨w.heap.size + 1 + 1 + 1, 0, none⟩) hgT (.int .i64 (n : Int))) (p := ⟨w.heap.size + 1 + 1 + 1, 1, none⟩) hgT (.slice (some ⟨g3, 0, none⟩) nn cap3))
    have HBf := hid ((HB3.out.setCell (p := ⟨w.heap.size + 1 + 1 + 1, 0, none⟩) (show w.heap.size ≤ w.heap.size + 1 + 1 + 1 by omega) (.int .i64 (n : Int))).setCell (p := ⟨w.heap.size + 1 + 1 + 1, 1, none⟩) (show w.heap.size ≤ w.heap.size + 1 + 1 + 1 by omega) (.slice (some ⟨g3, 0, none⟩) nn cap3))
    clear HA HR HB HO HE0 HE1 HTX HTY HA3 HR3 HB3 HO3 HT3 a0 a1 a5 a6 e0 e1 ef0 ef1 hg3
    generalize (w3.setCell ⟨w.heap.size + 1 + 1 + 1, 0, none⟩ (.int .i64 (n : Int))).setCell ⟨w.heap.size + 1 + 1 + 1, 1, none⟩ (.slice (some ⟨g3, 0, none⟩) nn cap3) = w4 at *
    generalize w.heap.size + 1 + 1 + 1 = T at *
    have t1 := HTf.out.c1
    have p0 := HAf.out.c0
    obtain ⟨g', cap', hv, hgb3, hgl3, hc, hf⟩ := row_at HOf.out (j := x + k) hx36
    cases hv
    have i0' : (0 : Int) ≤ (x : Int) + (k : Int) := by omega
    have i1' : (x : Int) + (k : Int) < (nn : Int) := by omega
    have it : ((x : Int) + (k : Int)).toNat = x + k := by omega
    have iw : IntKind.i64.wrap ((x : Int) + (k : Int)) = (x : Int) + (k : Int) := IntWalk.i64_in _ (by omega)
    have hgA : g3 ≠ w.heap.size := by omega
    have hgR : g3 ≠ w.heap.size + 1 := by omega
    have HAg := hid (HAf.out.far (p := ⟨g3, x + k, none⟩) (show w.heap.size ≠ g3 by omega) (.int .i64 (r : Int)))
    have HRg := hid (HRf.out.far (p := ⟨g3, x + k, none⟩) (show w.heap.size + 1 ≠ g3 by omega) (.int .i64 (r : Int)))
    have HTg := hid (HTf.out.far (p := ⟨g3, x + k, none⟩) (show T ≠ g3 from fun e => hgT e.symm) (.int .i64 (r : Int)))
    have HOg := hid (own_put HOf.out (x + k) r)
    have HBg := hid (HBf.out.setCell (p := ⟨g3, x + k, none⟩) (show w.heap.size ≤ g3 by omega) (.int .i64 (r : Int)))
    go_upto_region 3 with fail
    clear t1 p0 hc hf i0' i1' it iw HAf HRf HTf HOf HBf
    generalize w4.setCell ⟨g3, x + k, none⟩ (.int .i64 (r : Int)) = w5 at *
    have t0 := HTg.out.c0
    have t1 := HTg.out.c1
    have p0 := HAg.out.c0
    have r0 := HRg.out.c0
    have r1 := HRg.out.c1
    have rf0 := HRg.out.fr 0
    have rf1 := HRg.out.fr 1
    obtain ⟨g', cap', hv, hgb3, hgl3, hc, hf⟩ := row_at HOg.out (j := y + i) hy36
    cases hv
    have i0' : (0 : Int) ≤ (y : Int) + (i : Int) := by omega
    have i1' : (y : Int) + (i : Int) < (nn : Int) := by omega
    have it : ((y : Int) + (i : Int)).toNat = y + i := by omega
    have iw : IntKind.i64.wrap ((y : Int) + (i : Int)) = (y : Int) + (i : Int) := IntWalk.i64_in _ (by omega)
    have iz1 : ¬ ((y : Int) + (i : Int) < 0) := by omega
    have iz2 : ¬ ((nn : Int) ≤ (y : Int) + (i : Int)) := by omega
    have id0 : decide ((0 : Int) ≤ (y : Int) + (i : Int)) = true := by simp; omega
    have id1 : decide ((y : Int) + (i : Int) < (nn : Int)) = true := by simp; omega
    have id2 : decide (y + i < nn) = true := by simp; omega
    have iwy : IntKind.i64.wrap (y : Int) = (y : Int) := IntWalk.i64_in _ (by omega)
    have n1 : ¬ T = g3 := fun e => hgT e.symm
    have n2 : ¬ g3 = w.heap.size + 1 := hgR
    have n3 : ¬ w.heap.size + 1 = g3 := fun e => hgR e.symm
    have n4 : ¬ g3 = T := hgT
    have n5 : ¬ T = w.heap.size + 1 := by omega
    have n6 : ¬ w.heap.size + 1 = T := by omega
    have HOh := hid (own_put HOg.out (y + i) (turN r))
    have HOi := hid (own_far (own_far HOh.out (p := ⟨w.heap.size + 1, 0, none⟩) n2 (.int .i64 (n : Int))) (p := ⟨w.heap.size + 1, 1, none⟩) n2 (.slice (some ⟨g3, 0, none⟩) nn cap3))
    have HBi := hid (((HBg.out.setCell (p := ⟨g3, y + i, none⟩) (show w.heap.size ≤ g3 by omega) (.int .i64 ((turN r : Nat) : Int))).setCell (p := ⟨w.heap.size + 1, 0, none⟩) (by simp) (.int .i64 (n : Int))).setCell (p := ⟨w.heap.size + 1, 1, none⟩) (by simp) (.slice (some ⟨g3, 0, none⟩) nn cap3))
    have HTN := hid (l3Turn_any r hr)
    go_region_with (first | (go_at_call 95; (with_reducible refine (HTN.out _).mono ?_); rintro e w' ⟨rfl, rfl⟩) | fail)
    all_goals
      go_wp2_with fail
      refine bodyPost_ret (by simp [results, Tryd.results54, go_sem, *]; try rfl) rfl ?_
      exact ⟨⟨_, rfl, HOi.out⟩, (show Below _ _ _ from ⟨HBi.out.os, HBi.out.tape, HBi.out.output, HBi.out.size, HBi.out.block⟩)⟩
  · go_upto_region 2 with fail
    have hgT : g3 ≠ w.heap.size + 1 + 1 := by omega
    have hTA : w.heap.size + 1 < w.heap.size + 1 + 1 := by omega
    have HAf := hid ((HA3.out.far (p := ⟨w.heap.size + 1 + 1, 0, none⟩) (show w.heap.size ≠ w.heap.size + 1 + 1 by omega) (.int .i64 (n : Int))).far (p := ⟨w.heap.size + 1 + 1, 1, none⟩) (show w.heap.size ≠ w.heap.size + 1 + 1 by omega) (.slice (some ⟨g3, 0, none⟩) nn cap3))
    have HRf := hid ((HR3.out.far (p := ⟨w.heap.size + 1 + 1, 0, none⟩) (show w.heap.size + 1 ≠ w.heap.size + 1 + 1 by omega) (.int .i64 (n : Int))).far (p := ⟨w.heap.size + 1 + 1, 1, none⟩) (show w.heap.size + 1 ≠ w.heap.size + 1 + 1 by omega) (.slice (some ⟨g3, 0, none⟩) nn cap3))
    have HTf := hid ((HT3.out.set0 (z' := (n : Int))).set1 (.slice (some ⟨g3, 0, none⟩) nn cap3))
    have HOf := hid (own_far (own_far HO3.out (p := ⟨w.heap.size + 1 + 1, 0, none⟩) hgT (.int .i64 (n : Int))) (p := ⟨w.heap.size + 1 + 1, 1, none⟩) hgT (.slice (some ⟨g3, 0, none⟩) nn cap3))
    have HBf := hid ((HB3.out.setCell (p := ⟨w.heap.size + 1 + 1, 0, none⟩) (show w.heap.size ≤ w.heap.size + 1 + 1 by omega) (.int .i64 (n : Int))).setCell (p := ⟨w.heap.size + 1 + 1, 1, none⟩) (show w.heap.size ≤ w.heap.size + 1 + 1 by omega) (.slice (some ⟨g3, 0, none⟩) nn cap3))
    clear HA HR HB HO HE0 HE1 HTX HTY HA3 HR3 HB3 HO3 HT3 a0 a1 a5 a6 e0 e1 ef0 ef1 hg3
    generalize (w3.setCell ⟨w.heap.size + 1 + 1, 0, none⟩ (.int .i64 (n : Int))).setCell ⟨w.heap.size + 1 + 1, 1, none⟩ (.slice (some ⟨g3, 0, none⟩) nn cap3) = w4 at *
    have t1 := HTf.out.c1
    have p0 := HAf.out.c0
    obtain ⟨g', cap', hv, hgb3, hgl3, hc, hf⟩ := row_at HOf.out (j := x + k) hx36
    cases hv
    have i0' : (0 : Int) ≤ (x : Int) + (k : Int) := by omega
    have i1' : (x : Int) + (k : Int) < (nn : Int) := by omega
    have it : ((x : Int) + (k : Int)).toNat = x + k := by omega
    have iw : IntKind.i64.wrap ((x : Int) + (k : Int)) = (x : Int) + (k : Int) := IntWalk.i64_in _ (by omega)
    have hgA : g3 ≠ w.heap.size := by omega
    have hgR : g3 ≠ w.heap.size + 1 := by omega
    have HAg := hid (HAf.out.far (p := ⟨g3, x + k, none⟩) (show w.heap.size ≠ g3 by omega) (.int .i64 (r : Int)))
    have HRg := hid (HRf.out.far (p := ⟨g3, x + k, none⟩) (show w.heap.size + 1 ≠ g3 by omega) (.int .i64 (r : Int)))
    have HTg := hid (HTf.out.far (p := ⟨g3, x + k, none⟩) (show (w.heap.size + 1 + 1) ≠ g3 from fun e => hgT e.symm) (.int .i64 (r : Int)))
    have HOg := hid (own_put HOf.out (x + k) r)
    have HBg := hid (HBf.out.setCell (p := ⟨g3, x + k, none⟩) (show w.heap.size ≤ g3 by omega) (.int .i64 (r : Int)))
    go_upto_region 3 with fail
    clear t1 p0 hc hf i0' i1' it iw HAf HRf HTf HOf HBf
    generalize w4.setCell ⟨g3, x + k, none⟩ (.int .i64 (r : Int)) = w5 at *
    have t0 := HTg.out.c0
    have t1 := HTg.out.c1
    have p0 := HAg.out.c0
    have r0 := HRg.out.c0
    have r1 := HRg.out.c1
    have rf0 := HRg.out.fr 0
    have rf1 := HRg.out.fr 1
    obtain ⟨g', cap', hv, hgb3, hgl3, hc, hf⟩ := row_at HOg.out (j := y + i) hy36
    cases hv
    have i0' : (0 : Int) ≤ (y : Int) + (i : Int) := by omega
    have i1' : (y : Int) + (i : Int) < (nn : Int) := by omega
    have it : ((y : Int) + (i : Int)).toNat = y + i := by omega
    have iw : IntKind.i64.wrap ((y : Int) + (i : Int)) = (y : Int) + (i : Int) := IntWalk.i64_in _ (by omega)
    have iz1 : ¬ ((y : Int) + (i : Int) < 0) := by omega
    have iz2 : ¬ ((nn : Int) ≤ (y : Int) + (i : Int)) := by omega
    have id0 : decide ((0 : Int) ≤ (y : Int) + (i : Int)) = true := by simp; omega
    have id1 : decide ((y : Int) + (i : Int) < (nn : Int)) = true := by simp; omega
    have id2 : decide (y + i < nn) = true := by simp; omega
    have iwy : IntKind.i64.wrap (y : Int) = (y : Int) := IntWalk.i64_in _ (by omega)
    have n1 : ¬ (w.heap.size + 1 + 1) = g3 := fun e => hgT e.symm
    have n2 : ¬ g3 = w.heap.size + 1 := hgR
    have n3 : ¬ w.heap.size + 1 = g3 := fun e => hgR e.symm
    have n4 : ¬ g3 = (w.heap.size + 1 + 1) := hgT
    have n5 : ¬ (w.heap.size + 1 + 1) = w.heap.size + 1 := by omega
    have n6 : ¬ w.heap.size + 1 = (w.heap.size + 1 + 1) := by omega
    have HOh := hid (own_put HOg.out (y + i) (turN r))
    have HOi := hid (own_far (own_far HOh.out (p := ⟨w.heap.size + 1, 0, none⟩) n2 (.int .i64 (n : Int))) (p := ⟨w.heap.size + 1, 1, none⟩) n2 (.slice (some ⟨g3, 0, none⟩) nn cap3))
    have HBi := hid (((HBg.out.setCell (p := ⟨g3, y + i, none⟩) (show w.heap.size ≤ g3 by omega) (.int .i64 ((turN r : Nat) : Int))).setCell (p := ⟨w.heap.size + 1, 0, none⟩) (by simp) (.int .i64 (n : Int))).setCell (p := ⟨w.heap.size + 1, 1, none⟩) (by simp) (.slice (some ⟨g3, 0, none⟩) nn cap3))
    have HTN := hid (l3Turn_any r hr)
    go_region_with (first | (go_at_call 95; (with_reducible refine (HTN.out _).mono ?_); rintro e w' ⟨rfl, rfl⟩) | fail)
    all_goals
      go_wp2_with fail
      refine bodyPost_ret (by simp [results, Tryd.results54, go_sem, *]; try rfl) rfl ?_
      exact ⟨⟨_, rfl, HOi.out⟩, (show Below _ _ _ from ⟨HBi.out.os, HBi.out.tape, HBi.out.output, HBi.out.size, HBi.out.block⟩)⟩
end Go.Proofs.YtnogdjmciekieabDoor.C
