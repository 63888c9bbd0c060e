/- The model's tables of orders: opened from a text, put, closed to a text. -/
import Derived.Test.YtmdgkhebefnfeaaDoorPntS
import Derived.Deep.RegionHeld3
import Derived.Deep.DeepCutAuto
import Derived.Laws.AppendOwn
import Derived.OwnWalk
import Derived.Deep.AppendLies
import Derived.Deep.RegionLaw
namespace Go.Proofs.YtmdgkhebefnfeaaDoor.C
open Go.RowKit
set_option linter.unusedVariables false
set_option linter.unusedSimpArgs false
/-- A slice of m relations, wherever it lies below a bound. -/
def Tz9 (w : World) (B : Nat) (v : Value) (m : Nat) (L : Nat → Nat) : Prop :=
  ∃ a cap, v = .slice a m cap ∧ ∀ j, j < m → ∃ g, a = some ⟨g, 0, none⟩ ∧ g < B ∧ w.cell? ⟨g, j, none⟩ = some (.int .i64 ((L j : Nat) : Int))
theorem Tz9.of_own {w : World} {v : Value} {L : Nat → Nat} {m base : Nat} {T : TypeId} (h : w.ownsRow base T 1 v m ((List.range m).map fun x => .int .i64 ((L x : Nat) : Int))) : Tz9 w w.heap.size v m L := by
  have h0 := h
  rcases h.2 with ⟨rfl, hn⟩ | ⟨g, cap, cur, rfl, hB, hg, h1, h2, h3, h4⟩
  · exact ⟨none, 0, by rw [hn], fun i hi => by omega⟩
  · refine ⟨_, cap, rfl, fun i hi => ⟨g, rfl, (Array.getElem?_eq_some_iff.1 hg).1, ?_⟩⟩
    have ha : ∀ j, (⟨g, 0, none⟩ : Addr).add j = ⟨g, j, none⟩ := fun j => by unfold Addr.add; split <;> simp_all
    have c1 := h0.cells (g := g) rfl i (.int .i64 ((L i : Nat) : Int)) (by simp [hi])
    rw [ha] at c1
    exact c1
/-- a row of relations, as cells -/
def rL9 (L : Nat → Nat) (m : Nat) : List Value := (List.range m).map fun x => .int .i64 ((L x : Nat) : Int)
theorem rL9_succ (L : Nat → Nat) (m : Nat) : rL9 L m ++ [.int .i64 ((L m : Nat) : Int)] = rL9 L (m + 1) := by simp [rL9, List.range_succ]
theorem own_rL9 {w : World} {b T m m' : Nat} {v : Value} {L : Nat → Nat} (h : w.ownsRow b T 1 v m (rL9 L m)) (e : m = m') : w.ownsRow b T 1 v m' (rL9 L m') := by rw [← e]; exact h
theorem int9 : (Tryd.prog.info? 3).map (fun i => (i.zero, i.size, i.bytes)) = some (some (.int .i64 0), 1, 8) := by kernel_rfl
/-- A table of relations in a block of its own. -/
def Tq (w : World) (g : Nat) (z : Int) (v : Value) : Prop := w.heap[g]? = some (.cells #[.int .i64 z, v] 73 (0, 0))
section
variable {w w' : World} {g : Nat} {z : Int} {v : Value}
theorem Tq.lt (h : Tq w g z v) : g < w.heap.size := (Array.getElem?_eq_some_iff.1 h).1
theorem Tq.made (w : World) (z : Int) (v : Value) : Tq (w.alloc (.cells #[.int .i64 z, v] 73)) w.heap.size z v := heap_alloc_new w _
theorem Tq.alloc (h : Tq w g z v) (o : Obj) : Tq (w.alloc o) g z v := (Below.heap_alloc w o g h.lt).trans h
theorem Tq.below {B : Nat} (h : Tq w g z v) (hb : Below B w w') (hg : g < B) : Tq w' g z v := (hb.block g hg).trans h
theorem Tq.c0 (h : Tq w g z v) : w.cell? ⟨g, 0, none⟩ = some (.int .i64 z) := by rw [cell_of_row w g _ _ _ _ h]; rfl
theorem Tq.c1 (h : Tq w g z v) : w.cell? ⟨g, 1, none⟩ = some v := by rw [cell_of_row w g _ _ _ _ h]; rfl
theorem Tq.fr (h : Tq w g z v) (j : Nat) : w.frozen? ⟨g, j, none⟩ = false := frozen_of_row w g j _ _ h
theorem Tq.set1 (h : Tq w g z v) (u : Value) : Tq (w.setCell ⟨g, 1, none⟩ u) g z u := by
  unfold Tq
  rw [heap_setCell_same w g _ _ _ _ h]; rfl
theorem Tq.far (h : Tq w g z v) {p : Addr} (hp : g ≠ p.block) (u : Value) : Tq (w.setCell p u) g z v := (heap_setCell_other w p g u hp).trans h
end
theorem own_set9 {w : World} {b e size n : Nat} {v : Value} {xs : List Value} (h : w.ownsRow b e size v n xs) {p : Addr} (hp : p.block < b) (u : Value) : (w.setCell p u).ownsRow b e size v n xs := by
  obtain ⟨h1, h2⟩ := h
  refine ⟨h1, h2.imp id ?_⟩
  rintro ⟨g, cap, cur, hv, hB, hg, r⟩
  exact ⟨g, cap, cur, hv, hB, (heap_setCell_other w p g u (by omega)).trans hg, r⟩
theorem row_at9 {w : World} {b T m : Nat} {u : Value} {L : Nat → Nat} (h : w.ownsRow b T 1 u m (rL9 L m)) {j : Nat} (hj : j < m) :
    ∃ g cap, u = .slice (some ⟨g, 0, none⟩) m cap ∧ b ≤ g ∧ g < w.heap.size ∧ w.cell? ⟨g, j, none⟩ = some (.int .i64 ((L j : Nat) : Int)) ∧ w.frozen? ⟨g, j, none⟩ = false := by
  have h0 := h
  rcases h.2 with ⟨_, hn⟩ | ⟨g, cap, cur, rfl, hB, hg, h1, h2, h3, h4⟩
  · omega
  · refine ⟨g, cap, rfl, hB, (Array.getElem?_eq_some_iff.1 hg).1, ?_, frozen_of_row w g j _ _ hg⟩
    have ha : ∀ j, (⟨g, 0, none⟩ : Addr).add j = ⟨g, j, none⟩ := fun j => by unfold Addr.add; split <;> simp_all
    have c1 := h0.cells (g := g) rfl j (.int .i64 ((L j : Nat) : Int)) (by simp [rL9, hj])
    rw [ha] at c1
    exact c1
/-- a row with another relation at a place -/
def upL9 (L : Nat → Nat) (j r : Nat) : Nat → Nat := fun x => if x = j then r else L x
theorem rL9_set (L : Nat → Nat) (m j r : Nat) : (rL9 L m).set j (.int .i64 ((r : Nat) : Int)) = rL9 (upL9 L j r) m := by
  apply List.ext_getElem?
  intro y
  rw [List.getElem?_set]
  by_cases e : j = y
  · subst e
    by_cases hj : j < m <;> simp [rL9, upL9, hj]
  · have e' : ¬ y = j := fun h => e h.symm
    simp [rL9, upL9, e, e']
    by_cases hy : y < m <;> simp [hy, e']
theorem own_put9 {w : World} {b T m g cap : Nat} {L : Nat → Nat} (h : w.ownsRow b T 1 (.slice (some ⟨g, 0, none⟩) m cap) m (rL9 L m)) (j r : Nat) : (w.setCell ⟨g, j, none⟩ (.int .i64 ((r : Nat) : Int))).ownsRow b T 1 (.slice (some ⟨g, 0, none⟩) m cap) m (rL9 (upL9 L j r) m) := by
  obtain ⟨h1, h2⟩ := h
  refine ⟨by simp [rL9], .inr ?_⟩
  rcases h2 with ⟨hv, _⟩ | ⟨g', cap', cur, hv, hB, hg, e1, e2, e3, e4⟩
  · cases hv
  · cases hv
    refine ⟨g, cap, cur.setIfInBounds j (.int .i64 ((r : Nat) : Int)), rfl, hB, heap_setCell_same w g _ _ _ _ hg, e1, e2, by simpa using e3, ?_⟩
    rw [← rL9_set, ← e4, Array.toList_setIfInBounds]
    exact List.take_set
theorem own_ext9 {w : World} {b T m : Nat} {u : Value} {L M : Nat → Nat} (h : w.ownsRow b T 1 u m (rL9 L m)) (e : ∀ x, x < m → L x = M x) : w.ownsRow b T 1 u m (rL9 M m) := by
  have : rL9 L m = rL9 M m := by
    unfold rL9
    apply List.map_congr_left
    intro x hx
    rw [e x (List.mem_range.1 hx)]
  rw [← this]; exact h
theorem pk_alloc {w : World} {g : Nat} {z : Int} {s : ByteArray} (h : Pk w g z s) (o : Obj) : Pk (w.alloc o) g z s := (Below.heap_alloc w o g h.lt).trans h
theorem tq_grown {wi w1 w3 : World} {row : Option Nat} {g : Nat} {z : Int} {v : Value} (h : Tq wi g z v) (hg : w1.grownBy w3 row) (hp : Below wi.heap.size wi w1) (hne : some g ≠ row) : Tq w3 g z v :=
  (hg.block g (Nat.lt_of_lt_of_le h.lt hp.size) hne).trans ((hp.block g h.lt).trans h)
theorem pk_grown {wi w1 w3 : World} {row : Option Nat} {g : Nat} {z : Int} {s : ByteArray} (h : Pk wi g z s) (hg : w1.grownBy w3 row) (hp : Below wi.heap.size wi w1) (hne : some g ≠ row) : Pk w3 g z s :=
  (hg.block g (Nat.lt_of_lt_of_le h.lt hp.size) hne).trans ((hp.block g h.lt).trans h)
theorem rL9_one (L : Nat → Nat) (m : Nat) : ∀ u ∈ rL9 L m, u.oneCell' = true := by
  intro u hu
  simp only [rL9, List.mem_map] at hu
  obtain ⟨x, _, rfl⟩ := hu
  rfl
theorem own_far9 {w : World} {b e size n g cap : Nat} {xs : List Value} (h : w.ownsRow b e size (.slice (some ⟨g, 0, none⟩) n cap) n xs) {p : Addr} (hp : g ≠ p.block) (u : Value) : (w.setCell p u).ownsRow b e size (.slice (some ⟨g, 0, none⟩) n cap) n xs := by
  obtain ⟨h1, h2⟩ := h
  refine ⟨h1, h2.imp id ?_⟩
  rintro ⟨g', cap', cur, hv, hB, hg, r⟩
  cases hv
  exact ⟨g, cap, cur, rfl, hB, (heap_setCell_other w p g u hp).trans hg, r⟩
theorem Tq.set0 {w : World} {g : Nat} {z z' : Int} {v : Value} (h : Tq w g z v) : Tq (w.setCell ⟨g, 0, none⟩ (.int .i64 z')) g z' v := by
  unfold Tq
  rw [heap_setCell_same w g _ _ _ _ h]; rfl
theorem tq_set {w : World} {g : Nat} {z : Int} {v : Value} (h : Tq w g z v) (p : Addr) (hp : g ≠ p.block) (u : Value) : Tq (w.setCell p u) g z v := h.far hp u
set_option maxHeartbeats 4000000 in
set_option maxRecDepth 100000 in
theorem l9Put_any (n : Nat) (h12 : n ≤ 12) (L : Nat → Nat) (i k r : Nat) (hi : i < n) (hk : k < n) (hr : r < 8) (b : Nat) (u : Value) (w : World) (hO : w.ownsRow b 3 1 u (n * n) (rL9 L (n * n))) :
    Calls Tryd.prog 57 #[.agg #[.int .i64 n, u], .int .i64 i, .int .i64 k, .int .i64 r] w fun e w' => (∃ u', e = .returned (.agg #[.int .i64 n, u']) ∧ w'.ownsRow (w.heap.size + 1 + 1) 3 1 u' (n * n) (rL9 (upL9 (upL9 L (i * n + k) r) (k * n + i) (tpn r)) (n * n))) ∧ Below w.heap.size w w' := by
  obtain ⟨i0, hi0, hz0, hz1, hz2⟩ := info_parts int9
  have hx144 := pat_lt hi hk
  have hy144 := pat_lt hk hi
  have h144 : n * n ≤ 144 := Nat.mul_le_mul h12 h12
  obtain ⟨g, cap, rfl, hgb, hgl⟩ := hO.form (by omega)
  obtain ⟨x, hx⟩ : ∃ x : Nat, x = i * n := ⟨_, rfl⟩
  obtain ⟨y, hy⟩ : ∃ y : Nat, y = k * n := ⟨_, rfl⟩
  have hmul : (i : Int) * (n : Int) = (x : Int) := by rw [hx]; push_cast; rfl
  have hmuy : (k : Int) * (n : Int) = (y : Int) := by rw [hy]; push_cast; rfl
  rw [← hx, ← hy]
  rw [← hx] at hx144
  rw [← hy] at hy144
  clear hx hy
  have hw2 : ((w.alloc (.cells #[.int .i64 n, .slice (some ⟨g, 0, none⟩) (n * n) cap] 73)).alloc (.cells #[.int .i64 0, .slice none 0 0] 73)).heap.size = w.heap.size + 1 + 1 := by rw [World.size_alloc, World.size_alloc]
  generalize n * n = nn at *
  have HA := hid ((Tq.made w n (.slice (some ⟨g, 0, none⟩) nn cap)).alloc (.cells #[.int .i64 0, .slice none 0 0] 73))
  have HR := hid (show Tq ((w.alloc (.cells #[.int .i64 n, .slice (some ⟨g, 0, none⟩) nn cap] 73)).alloc (.cells #[.int .i64 0, .slice none 0 0] 73)) (w.heap.size + 1) 0 (.slice none 0 0) by
    have h := Tq.made (w.alloc (.cells #[.int .i64 n, .slice (some ⟨g, 0, none⟩) nn cap] 73)) 0 (.slice none 0 0)
    rw [World.size_alloc] at h
    exact h)
  have HB := hid (((Below.refl w.heap.size w).alloc (Nat.le_refl _) (.cells #[.int .i64 n, .slice (some ⟨g, 0, none⟩) nn cap] 73)).alloc (by simp) (.cells #[.int .i64 0, .slice none 0 0] 73))
  have HO := hid (own_bel hO HB.out)
  clear hO
  have HS := AllLt.start w; go_enter Tryd.func57, Tryd.ntmps57
  go_upto_region 1 with fail
  generalize (w.alloc (.cells #[.int .i64 n, .slice (some ⟨g, 0, none⟩) nn cap] 73)).alloc (.cells #[.int .i64 0, .slice none 0 0] 73) = w2 at *
  have a0 := HA.out.c0
  have a1 := HA.out.c1
  have hAl : w.heap.size < w2.heap.size := by omega
  have hAn : ¬ w.heap.size = w2.heap.size := by omega
  have HE0 := hid (show (w2.alloc (.cells #[] 3)).ownsRow (w.heap.size + 1 + 1) 3 1 (.slice (some ⟨w.heap.size + 1 + 1, 0, none⟩) 0 0) 0 [] by
    have h := World.ownsRow_made (base := w.heap.size + 1 + 1) (e := 3) (size := 1) w2 #[] 0 (by omega) (by decide) rfl
    rw [hw2] at h
    exact h)
  have HE1 := hid (show ((w2.alloc (.cells #[.int .i64 0, .slice none 0 0] 73)).alloc (.cells #[] 3)).ownsRow (w.heap.size + 1 + 1) 3 1 (.slice (some ⟨w.heap.size + 1 + 1 + 1, 0, none⟩) 0 0) 0 [] by
    have h := World.ownsRow_made (base := w.heap.size + 1 + 1) (e := 3) (size := 1) (w2.alloc (.cells #[.int .i64 0, .slice none 0 0] 73)) #[] 0 (by rw [World.size_alloc]; omega) (by decide) rfl
    rw [World.size_alloc, hw2] at h
    exact h)
  have HTX := hid (show Tq ((w2.alloc (.cells #[] 3)).alloc (.cells #[.int .i64 0, .slice none 0 0] 73)) (w.heap.size + 1 + 1 + 1) 0 (.slice none 0 0) by
    have h := Tq.made (w2.alloc (.cells #[] 3)) 0 (.slice none 0 0)
    rw [World.size_alloc, hw2] at h
    exact h)
  have HTY := hid (show Tq ((w2.alloc (.cells #[.int .i64 0, .slice none 0 0] 73)).alloc (.cells #[] 3)) (w.heap.size + 1 + 1) 0 (.slice none 0 0) by
    have h := (Tq.made w2 0 (.slice none 0 0)).alloc (.cells #[] 3)
    rw [hw2] at h
    exact h)
  go_region_held3 (fun wx => wx.cell? ⟨w.heap.size, 0, none⟩ = some (.int .i64 (n : Int)) ∧ wx.cell? ⟨w.heap.size, 1, none⟩ = some (.slice (some ⟨g, 0, none⟩) nn cap)) (first | exact ⟨a5, a6⟩ | exact ⟨(tq_set (tq_set HA3.out _ (by first | (show w.heap.size ≠ w.heap.size + 1 + 1 + 1; omega) | (show w.heap.size ≠ w.heap.size + 1 + 1; omega)) _) _ (by first | (show w.heap.size ≠ w.heap.size + 1 + 1 + 1; omega) | (show w.heap.size ≠ w.heap.size + 1 + 1; omega)) _).c0, (tq_set (tq_set HA3.out _ (by first | (show w.heap.size ≠ w.heap.size + 1 + 1 + 1; omega) | (show w.heap.size ≠ w.heap.size + 1 + 1; omega)) _) _ (by first | (show w.heap.size ≠ w.heap.size + 1 + 1 + 1; omega) | (show w.heap.size ≠ w.heap.size + 1 + 1; omega)) _).c1⟩ | (have hp := HA.out.below (show Below w2.heap.size w2 _ from by (repeat' (first | (with_reducible exact Below.refl _ _) | (with_reducible refine Below.setCell ?_ ?_ _) | (with_reducible refine below_drewN' ?_ _) | (with_reducible refine below_drew' ?_) | (with_reducible refine Below.alloc ?_ ?_ _) | (with_reducible assumption) | go_size))) hAl; exact ⟨hp.c0, hp.c1⟩) | (have hp := HA3.out.below (show Below w3.heap.size w3 _ from by (repeat' (first | (with_reducible exact Below.refl _ _) | (with_reducible refine Below.setCell ?_ ?_ _) | (with_reducible refine below_drewN' ?_ _) | (with_reducible refine below_drew' ?_) | (with_reducible refine Below.alloc ?_ ?_ _) | (with_reducible assumption) | go_size))) HA3.out.lt; exact ⟨hp.c0, hp.c1⟩) | go_keep)
    (first
        | (refine step_append_lies _ (by rfl) _ _ 35 (by rfl) (w.heap.size + 1 + 1) 3 i0 _ 1 8 Tryd.underlying35 hi0 hz0 hz1 hz2 rfl (by decide) (.slice (some ⟨w.heap.size + 1 + 1, 0, none⟩) 0 0) 0 [] (by rfl) (own_bel HE0.out (by (repeat' (first | (with_reducible exact Below.refl _ _) | (with_reducible refine Below.setCell ?_ ?_ _) | (with_reducible refine below_drewN' ?_ _) | (with_reducible refine below_drew' ?_) | (with_reducible refine Below.alloc ?_ ?_ _) | (with_reducible assumption) | go_size)))) ⟨g, 0, none⟩ nn cap (rL9 L nn) (by rfl) (by simp [rL9]) ((own_bel HO.out (by (repeat' (first | (with_reducible exact Below.refl _ _) | (with_reducible refine Below.setCell ?_ ?_ _) | (with_reducible refine below_drewN' ?_ _) | (with_reducible refine below_drew' ?_) | (with_reducible refine Below.alloc ?_ ?_ _) | (with_reducible assumption) | go_size)))).cells (g := g) rfl) (rL9_one L nn) (by omega) (by unfold maxLen; omega) (by omega) (by simp; omega) (w.heap.size + 1 + 1 + 1 + 1) (by simp; omega) ?_
           intro g3 cap3 w3 hown hgrow hat hlt3
           have HA3 := hid (tq_grown HA.out hgrow (by (repeat' (first | (with_reducible exact Below.refl _ _) | (with_reducible refine Below.setCell ?_ ?_ _) | (with_reducible refine below_drewN' ?_ _) | (with_reducible refine below_drew' ?_) | (with_reducible refine Below.alloc ?_ ?_ _) | (with_reducible assumption) | go_size))) (show some w.heap.size ≠ some (w.heap.size + 1 + 1) from fun e => by injection e; omega))
           have HR3 := hid (tq_grown HR.out hgrow (by (repeat' (first | (with_reducible exact Below.refl _ _) | (with_reducible refine Below.setCell ?_ ?_ _) | (with_reducible refine below_drewN' ?_ _) | (with_reducible refine below_drew' ?_) | (with_reducible refine Below.alloc ?_ ?_ _) | (with_reducible assumption) | go_size))) (show some (w.heap.size + 1) ≠ some (w.heap.size + 1 + 1) from fun e => by injection e; omega))
           have HB3 := hid ((HB.out.trans (Below.mono (show Below w2.heap.size w2 _ from by (repeat' (first | (with_reducible exact Below.refl _ _) | (with_reducible refine Below.setCell ?_ ?_ _) | (with_reducible refine below_drewN' ?_ _) | (with_reducible refine below_drew' ?_) | (with_reducible refine Below.alloc ?_ ?_ _) | (with_reducible assumption) | go_size))) HB.out.size)).grown hgrow (by simp; omega) (fun j hj => by
             have : w.heap.size + 1 + 1 = j := by injection hj
             omega))
           have HO3 := hid (show w3.ownsRow (w.heap.size + 1 + 1) 3 1 (.slice (some ⟨g3, 0, none⟩) nn cap3) nn (rL9 L nn) by simpa using hown)
           have hg3 : g3 = w.heap.size + 1 + 1 ∨ g3 = w.heap.size + 1 + 1 + 1 + 1 := by
             rcases hat with h | h
             · injection h with h; exact .inl h.symm
             · exact .inr h
           have a5 := HA3.out.c0
           have a6 := HA3.out.c1
           have HT3 := hid (show Tq w3 (w.heap.size + 1 + 1 + 1) 0 (.slice none 0 0) from (hgrow.block _ (by simp; omega) (show some (w.heap.size + 1 + 1 + 1) ≠ some (w.heap.size + 1 + 1) from fun e => by injection e; omega)).trans HTX.out)
           have e0 := HT3.out.c0
           have e1 := HT3.out.c1
           have ef0 := HT3.out.fr 0
           have ef1 := HT3.out.fr 1
           clear hown hgrow hat)
        | (refine step_append_lies _ (by rfl) _ _ 35 (by rfl) (w.heap.size + 1 + 1) 3 i0 _ 1 8 Tryd.underlying35 hi0 hz0 hz1 hz2 rfl (by decide) (.slice (some ⟨w.heap.size + 1 + 1 + 1, 0, none⟩) 0 0) 0 [] (by rfl) (own_bel HE1.out (by (repeat' (first | (with_reducible exact Below.refl _ _) | (with_reducible refine Below.setCell ?_ ?_ _) | (with_reducible refine below_drewN' ?_ _) | (with_reducible refine below_drew' ?_) | (with_reducible refine Below.alloc ?_ ?_ _) | (with_reducible assumption) | go_size)))) ⟨g, 0, none⟩ nn cap (rL9 L nn) (by rfl) (by simp [rL9]) ((own_bel HO.out (by (repeat' (first | (with_reducible exact Below.refl _ _) | (with_reducible refine Below.setCell ?_ ?_ _) | (with_reducible refine below_drewN' ?_ _) | (with_reducible refine below_drew' ?_) | (with_reducible refine Below.alloc ?_ ?_ _) | (with_reducible assumption) | go_size)))).cells (g := g) rfl) (rL9_one L nn) (by omega) (by unfold maxLen; omega) (by omega) (by simp; omega) (w.heap.size + 1 + 1 + 1 + 1) (by simp; omega) ?_
           intro g3 cap3 w3 hown hgrow hat hlt3
           have HA3 := hid (tq_grown HA.out hgrow (by (repeat' (first | (with_reducible exact Below.refl _ _) | (with_reducible refine Below.setCell ?_ ?_ _) | (with_reducible refine below_drewN' ?_ _) | (with_reducible refine below_drew' ?_) | (with_reducible refine Below.alloc ?_ ?_ _) | (with_reducible assumption) | go_size))) (show some w.heap.size ≠ some (w.heap.size + 1 + 1 + 1) from fun e => by injection e; omega))
           have HR3 := hid (tq_grown HR.out hgrow (by (repeat' (first | (with_reducible exact Below.refl _ _) | (with_reducible refine Below.setCell ?_ ?_ _) | (with_reducible refine below_drewN' ?_ _) | (with_reducible refine below_drew' ?_) | (with_reducible refine Below.alloc ?_ ?_ _) | (with_reducible assumption) | go_size))) (show some (w.heap.size + 1) ≠ some (w.heap.size + 1 + 1 + 1) from fun e => by injection e; omega))
           have HB3 := hid ((HB.out.trans (Below.mono (show Below w2.heap.size w2 _ from by (repeat' (first | (with_reducible exact Below.refl _ _) | (with_reducible refine Below.setCell ?_ ?_ _) | (with_reducible refine below_drewN' ?_ _) | (with_reducible refine below_drew' ?_) | (with_reducible refine Below.alloc ?_ ?_ _) | (with_reducible assumption) | go_size))) HB.out.size)).grown hgrow (by simp; omega) (fun j hj => by
             have : w.heap.size + 1 + 1 + 1 = j := by injection hj
             omega))
           have HO3 := hid (show w3.ownsRow (w.heap.size + 1 + 1) 3 1 (.slice (some ⟨g3, 0, none⟩) nn cap3) nn (rL9 L nn) by simpa using hown)
           have hg3 : g3 = w.heap.size + 1 + 1 + 1 ∨ g3 = w.heap.size + 1 + 1 + 1 + 1 := by
             rcases hat with h | h
             · injection h with h; exact .inl h.symm
             · exact .inr h
           have a5 := HA3.out.c0
           have a6 := HA3.out.c1
           have HT3 := hid (show Tq w3 (w.heap.size + 1 + 1) 0 (.slice none 0 0) from (hgrow.block _ (by simp; omega) (show some (w.heap.size + 1 + 1) ≠ some (w.heap.size + 1 + 1 + 1) from fun e => by injection e; omega)).trans HTY.out)
           have e0 := HT3.out.c0
           have e1 := HT3.out.c1
           have ef0 := HT3.out.fr 0
           have ef1 := HT3.out.fr 1
           clear hown hgrow hat)
        | (refine step_append_lies _ (by rfl) _ _ 35 (by rfl) (w.heap.size + 1 + 1) 3 i0 _ 1 8 Tryd.underlying35 hi0 hz0 hz1 hz2 rfl (by decide) (.slice (some ⟨w.heap.size + 1 + 1, 0, none⟩) 0 0) 0 [] (by rfl) (own_bel HE0.out (by (repeat' (first | (with_reducible exact Below.refl _ _) | (with_reducible refine Below.setCell ?_ ?_ _) | (with_reducible refine below_drewN' ?_ _) | (with_reducible refine below_drew' ?_) | (with_reducible refine Below.alloc ?_ ?_ _) | (with_reducible assumption) | go_size)))) ⟨g, 0, none⟩ nn cap (rL9 L nn) (by rfl) (by simp [rL9]) ((own_bel HO.out (by (repeat' (first | (with_reducible exact Below.refl _ _) | (with_reducible refine Below.setCell ?_ ?_ _) | (with_reducible refine below_drewN' ?_ _) | (with_reducible refine below_drew' ?_) | (with_reducible refine Below.alloc ?_ ?_ _) | (with_reducible assumption) | go_size)))).cells (g := g) rfl) (rL9_one L nn) (by omega) (by unfold maxLen; omega) (by omega) (by simp; omega) (w.heap.size + 1 + 1 + 1) (by simp; omega) ?_
           intro g3 cap3 w3 hown hgrow hat hlt3
           have HA3 := hid (tq_grown HA.out hgrow (by (repeat' (first | (with_reducible exact Below.refl _ _) | (with_reducible refine Below.setCell ?_ ?_ _) | (with_reducible refine below_drewN' ?_ _) | (with_reducible refine below_drew' ?_) | (with_reducible refine Below.alloc ?_ ?_ _) | (with_reducible assumption) | go_size))) (show some w.heap.size ≠ some (w.heap.size + 1 + 1) from fun e => by injection e; omega))
           have HR3 := hid (tq_grown HR.out hgrow (by (repeat' (first | (with_reducible exact Below.refl _ _) | (with_reducible refine Below.setCell ?_ ?_ _) | (with_reducible refine below_drewN' ?_ _) | (with_reducible refine below_drew' ?_) | (with_reducible refine Below.alloc ?_ ?_ _) | (with_reducible assumption) | go_size))) (show some (w.heap.size + 1) ≠ some (w.heap.size + 1 + 1) from fun e => by injection e; omega))
           have HB3 := hid ((HB.out.trans (Below.mono (show Below w2.heap.size w2 _ from by (repeat' (first | (with_reducible exact Below.refl _ _) | (with_reducible refine Below.setCell ?_ ?_ _) | (with_reducible refine below_drewN' ?_ _) | (with_reducible refine below_drew' ?_) | (with_reducible refine Below.alloc ?_ ?_ _) | (with_reducible assumption) | go_size))) HB.out.size)).grown hgrow (by simp; omega) (fun j hj => by
             have : w.heap.size + 1 + 1 = j := by injection hj
             omega))
           have HO3 := hid (show w3.ownsRow (w.heap.size + 1 + 1) 3 1 (.slice (some ⟨g3, 0, none⟩) nn cap3) nn (rL9 L nn) by simpa using hown)
           have hg3 : g3 = w.heap.size + 1 + 1 ∨ g3 = w.heap.size + 1 + 1 + 1 := by
             rcases hat with h | h
             · injection h with h; exact .inl h.symm
             · exact .inr h
           have a5 := HA3.out.c0
           have a6 := HA3.out.c1
           have HT2 := hid (show w.heap.size + 1 + 1 ≤ w3.heap.size by have := hgrow.size; simp at this; omega)
           clear hown hgrow hat)
        | fail)
  · go_upto_region 2 with fail
    have hgT : g3 ≠ w3.heap.size := by omega
    have hTA : w.heap.size + 1 < w3.heap.size := by have := HT2.out; omega
    have HAf := hid (HA3.out.alloc (.cells #[.int .i64 (n : Int), (.slice (some ⟨g3, 0, none⟩) nn cap3)] 73))
    have HRf := hid (HR3.out.alloc (.cells #[.int .i64 (n : Int), (.slice (some ⟨g3, 0, none⟩) nn cap3)] 73))
    have HTf := hid (Tq.made w3 n (.slice (some ⟨g3, 0, none⟩) nn cap3))
    have HOf := hid (HO3.out.alloc (.cells #[.int .i64 (n : Int), (.slice (some ⟨g3, 0, none⟩) nn cap3)] 73))
    have HBf := hid (HB3.out.alloc HB3.out.size (.cells #[.int .i64 (n : Int), (.slice (some ⟨g3, 0, none⟩) nn cap3)] 73))
    clear HA HR HB HO HE0 HE1 HTX HTY HA3 HR3 HB3 HO3 HT2 a0 a1 a5 a6 hg3
    generalize w3.alloc (.cells #[.int .i64 (n : Int), (.slice (some ⟨g3, 0, none⟩) nn cap3)] 73) = w4 at *
    generalize w3.heap.size = T at *
    have t1 := HTf.out.c1
    have p0 := HAf.out.c0
    obtain ⟨g', cap', hv, hgb3, hgl3, hc, hf⟩ := row_at9 HOf.out (j := x + k) hx144
    cases hv
    have i0' : (0 : Int) ≤ (x : Int) + (k : Int) := by omega
    have i1' : (x : Int) + (k : Int) < (nn : Int) := by omega
    have it : ((x : Int) + (k : Int)).toNat = x + k := by omega
    have iw : IntKind.i64.wrap ((x : Int) + (k : Int)) = (x : Int) + (k : Int) := IntWalk.i64_in _ (by omega)
    have hgA : g3 ≠ w.heap.size := by omega
    have hgR : g3 ≠ w.heap.size + 1 := by omega
    have HAg := hid (HAf.out.far (p := ⟨g3, x + k, none⟩) (show w.heap.size ≠ g3 by omega) (.int .i64 (r : Int)))
    have HRg := hid (HRf.out.far (p := ⟨g3, x + k, none⟩) (show w.heap.size + 1 ≠ g3 by omega) (.int .i64 (r : Int)))
    have HTg := hid (HTf.out.far (p := ⟨g3, x + k, none⟩) (show T ≠ g3 from fun e => hgT e.symm) (.int .i64 (r : Int)))
    have HOg := hid (own_put9 HOf.out (x + k) r)
    have HBg := hid (HBf.out.setCell (p := ⟨g3, x + k, none⟩) (show w.heap.size ≤ g3 by omega) (.int .i64 (r : Int)))
    go_upto_region 3 with fail
    clear t1 p0 hc hf i0' i1' it iw HAf HRf HTf HOf HBf
    generalize w4.setCell ⟨g3, x + k, none⟩ (.int .i64 (r : Int)) = w5 at *
    have t0 := HTg.out.c0
    have t1 := HTg.out.c1
    have p0 := HAg.out.c0
    have r0 := HRg.out.c0
    have r1 := HRg.out.c1
    have rf0 := HRg.out.fr 0
    have rf1 := HRg.out.fr 1
    obtain ⟨g', cap', hv, hgb3, hgl3, hc, hf⟩ := row_at9 HOg.out (j := y + i) hy144
    cases hv
    have i0' : (0 : Int) ≤ (y : Int) + (i : Int) := by omega
    have i1' : (y : Int) + (i : Int) < (nn : Int) := by omega
    have it : ((y : Int) + (i : Int)).toNat = y + i := by omega
    have iw : IntKind.i64.wrap ((y : Int) + (i : Int)) = (y : Int) + (i : Int) := IntWalk.i64_in _ (by omega)
    have iz1 : ¬ ((y : Int) + (i : Int) < 0) := by omega
    have iz2 : ¬ ((nn : Int) ≤ (y : Int) + (i : Int)) := by omega
    have id0 : decide ((0 : Int) ≤ (y : Int) + (i : Int)) = true := by simp; omega
    have id1 : decide ((y : Int) + (i : Int) < (nn : Int)) = true := by simp; omega
    have id2 : decide (y + i < nn) = true := by simp; omega
    have iwy : IntKind.i64.wrap (y : Int) = (y : Int) := IntWalk.i64_in _ (by omega)
    have n1 : ¬ T = g3 := fun e => hgT e.symm
    have n2 : ¬ g3 = w.heap.size + 1 := hgR
    have n3 : ¬ w.heap.size + 1 = g3 := fun e => hgR e.symm
    have n4 : ¬ g3 = T := hgT
    have n5 : ¬ T = w.heap.size + 1 := by omega
    have n6 : ¬ w.heap.size + 1 = T := by omega
    have HOh := hid (own_put9 HOg.out (y + i) (tpn r))
    have HOi := hid (own_far9 (own_far9 HOh.out (p := ⟨w.heap.size + 1, 0, none⟩) n2 (.int .i64 (n : Int))) (p := ⟨w.heap.size + 1, 1, none⟩) n2 (.slice (some ⟨g3, 0, none⟩) nn cap3))
    have HBi := hid (((HBg.out.setCell (p := ⟨g3, y + i, none⟩) (show w.heap.size ≤ g3 by omega) (.int .i64 ((tpn r : Nat) : Int))).setCell (p := ⟨w.heap.size + 1, 0, none⟩) (by simp) (.int .i64 (n : Int))).setCell (p := ⟨w.heap.size + 1, 1, none⟩) (by simp) (.slice (some ⟨g3, 0, none⟩) nn cap3))
    have HTN := hid (l1Turn_any r hr)
    go_region_with (first | (go_at_call 51; (with_reducible refine (HTN.out _).mono ?_); rintro e w' ⟨rfl, rfl⟩) | fail)
    all_goals
      go_wp2_with fail
      refine bodyPost_ret (by simp [results, Tryd.results57, go_sem, *]; try rfl) rfl ?_
      exact ⟨⟨_, rfl, HOi.out⟩, (show Below _ _ _ from ⟨HBi.out.os, HBi.out.tape, HBi.out.output, HBi.out.size, HBi.out.block⟩)⟩
  · go_upto_region 2 with fail
    have hgT : g3 ≠ w.heap.size + 1 + 1 + 1 := by omega
    have hTA : w.heap.size + 1 < w.heap.size + 1 + 1 + 1 := by omega
    have HAf := hid ((HA3.out.far (p := ⟨w.heap.size + 1 + 1 + 1, 0, none⟩) (show w.heap.size ≠ w.heap.size + 1 + 1 + 1 by omega) (.int .i64 (n : Int))).far (p := ⟨w.heap.size + 1 + 1 + 1, 1, none⟩) (show w.heap.size ≠ w.heap.size + 1 + 1 + 1 by omega) (.slice (some ⟨g3, 0, none⟩) nn cap3))
    have HRf := hid ((HR3.out.far (p := ⟨w.heap.size + 1 + 1 + 1, 0, none⟩) (show w.heap.size + 1 ≠ w.heap.size + 1 + 1 + 1 by omega) (.int .i64 (n : Int))).far (p := ⟨w.heap.size + 1 + 1 + 1, 1, none⟩) (show w.heap.size + 1 ≠ w.heap.size + 1 + 1 + 1 by omega) (.slice (some ⟨g3, 0, none⟩) nn cap3))
    have HTf := hid ((HT3.out.set0 (z' := (n : Int))).set1 (.slice (some ⟨g3, 0, none⟩) nn cap3))
    have HOf := hid (own_far9 (own_far9 HO3.out (p := ⟨w.heap.size + 1 + 1 + 1, 0, none⟩) hgT (.int .i64 (n : Int))) (p := ⟨w.heap.size + 1 + 1 + 1, 1, none⟩) hgT (.slice (some ⟨g3, 0, none⟩) nn cap3))
    have HBf := hid ((HB3.out.setCell (p := ⟨w.heap.size + 1 + 1 + 1, 0, none⟩) (show w.heap.size ≤ w.heap.size + 1 + 1 + 1 by omega) (.int .i64 (n : Int))).setCell (p := ⟨w.heap.size + 1 + 1 + 1, 1, none⟩) (show w.heap.size ≤ w.heap.size + 1 + 1 + 1 by omega) (.slice (some ⟨g3, 0, none⟩) nn cap3))
    clear HA HR HB HO HE0 HE1 HTX HTY HA3 HR3 HB3 HO3 HT3 a0 a1 a5 a6 e0 e1 ef0 ef1 hg3
    generalize (w3.setCell ⟨w.heap.size + 1 + 1 + 1, 0, none⟩ (.int .i64 (n : Int))).setCell ⟨w.heap.size + 1 + 1 + 1, 1, none⟩ (.slice (some ⟨g3, 0, none⟩) nn cap3) = w4 at *
    generalize w.heap.size + 1 + 1 + 1 = T at *
    have t1 := HTf.out.c1
    have p0 := HAf.out.c0
    obtain ⟨g', cap', hv, hgb3, hgl3, hc, hf⟩ := row_at9 HOf.out (j := x + k) hx144
    cases hv
    have i0' : (0 : Int) ≤ (x : Int) + (k : Int) := by omega
    have i1' : (x : Int) + (k : Int) < (nn : Int) := by omega
    have it : ((x : Int) + (k : Int)).toNat = x + k := by omega
    have iw : IntKind.i64.wrap ((x : Int) + (k : Int)) = (x : Int) + (k : Int) := IntWalk.i64_in _ (by omega)
    have hgA : g3 ≠ w.heap.size := by omega
    have hgR : g3 ≠ w.heap.size + 1 := by omega
    have HAg := hid (HAf.out.far (p := ⟨g3, x + k, none⟩) (show w.heap.size ≠ g3 by omega) (.int .i64 (r : Int)))
    have HRg := hid (HRf.out.far (p := ⟨g3, x + k, none⟩) (show w.heap.size + 1 ≠ g3 by omega) (.int .i64 (r : Int)))
    have HTg := hid (HTf.out.far (p := ⟨g3, x + k, none⟩) (show T ≠ g3 from fun e => hgT e.symm) (.int .i64 (r : Int)))
    have HOg := hid (own_put9 HOf.out (x + k) r)
    have HBg := hid (HBf.out.setCell (p := ⟨g3, x + k, none⟩) (show w.heap.size ≤ g3 by omega) (.int .i64 (r : Int)))
    go_upto_region 3 with fail
    clear t1 p0 hc hf i0' i1' it iw HAf HRf HTf HOf HBf
    generalize w4.setCell ⟨g3, x + k, none⟩ (.int .i64 (r : Int)) = w5 at *
    have t0 := HTg.out.c0
    have t1 := HTg.out.c1
    have p0 := HAg.out.c0
    have r0 := HRg.out.c0
    have r1 := HRg.out.c1
    have rf0 := HRg.out.fr 0
    have rf1 := HRg.out.fr 1
    obtain ⟨g', cap', hv, hgb3, hgl3, hc, hf⟩ := row_at9 HOg.out (j := y + i) hy144
    cases hv
    have i0' : (0 : Int) ≤ (y : Int) + (i : Int) := by omega
    have i1' : (y : Int) + (i : Int) < (nn : Int) := by omega
    have it : ((y : Int) + (i : Int)).toNat = y + i := by omega
    have iw : IntKind.i64.wrap ((y : Int) + (i : Int)) = (y : Int) + (i : Int) := IntWalk.i64_in _ (by omega)
    have iz1 : ¬ ((y : Int) + (i : Int) < 0) := by omega
    have iz2 : ¬ ((nn : Int) ≤ (y : Int) + (i : Int)) := by omega
    have id0 : decide ((0 : Int) ≤ (y : Int) + (i : Int)) = true := by simp; omega
    have id1 : decide ((y : Int) + (i : Int) < (nn : Int)) = true := by simp; omega
    have id2 : decide (y + i < nn) = true := by simp; omega
    have iwy : IntKind.i64.wrap (y : Int) = (y : Int) := IntWalk.i64_in _ (by omega)
    have n1 : ¬ T = g3 := fun e => hgT e.symm
    have n2 : ¬ g3 = w.heap.size + 1 := hgR
    have n3 : ¬ w.heap.size + 1 = g3 := fun e => hgR e.symm
    have n4 : ¬ g3 = T := hgT
    have n5 : ¬ T = w.heap.size + 1 := by omega
    have n6 : ¬ w.heap.size + 1 = T := by omega
    have HOh := hid (own_put9 HOg.out (y + i) (tpn r))
    have HOi := hid (own_far9 (own_far9 HOh.out (p := ⟨w.heap.size + 1, 0, none⟩) n2 (.int .i64 (n : Int))) (p := ⟨w.heap.size + 1, 1, none⟩) n2 (.slice (some ⟨g3, 0, none⟩) nn cap3))
    have HBi := hid (((HBg.out.setCell (p := ⟨g3, y + i, none⟩) (show w.heap.size ≤ g3 by omega) (.int .i64 ((tpn r : Nat) : Int))).setCell (p := ⟨w.heap.size + 1, 0, none⟩) (by simp) (.int .i64 (n : Int))).setCell (p := ⟨w.heap.size + 1, 1, none⟩) (by simp) (.slice (some ⟨g3, 0, none⟩) nn cap3))
    have HTN := hid (l1Turn_any r hr)
    go_region_with (first | (go_at_call 51; (with_reducible refine (HTN.out _).mono ?_); rintro e w' ⟨rfl, rfl⟩) | fail)
    all_goals
      go_wp2_with fail
      refine bodyPost_ret (by simp [results, Tryd.results57, go_sem, *]; try rfl) rfl ?_
      exact ⟨⟨_, rfl, HOi.out⟩, (show Below _ _ _ from ⟨HBi.out.os, HBi.out.tape, HBi.out.output, HBi.out.size, HBi.out.block⟩)⟩
  · go_upto_region 2 with fail
    have hgT : g3 ≠ w.heap.size + 1 + 1 := by omega
    have hTA : w.heap.size + 1 < w.heap.size + 1 + 1 := by omega
    have HAf := hid ((HA3.out.far (p := ⟨w.heap.size + 1 + 1, 0, none⟩) (show w.heap.size ≠ w.heap.size + 1 + 1 by omega) (.int .i64 (n : Int))).far (p := ⟨w.heap.size + 1 + 1, 1, none⟩) (show w.heap.size ≠ w.heap.size + 1 + 1 by omega) (.slice (some ⟨g3, 0, none⟩) nn cap3))
    have HRf := hid ((HR3.out.far (p := ⟨w.heap.size + 1 + 1, 0, none⟩) (show w.heap.size + 1 ≠ w.heap.size + 1 + 1 by omega) (.int .i64 (n : Int))).far (p := ⟨w.heap.size + 1 + 1, 1, none⟩) (show w.heap.size + 1 ≠ w.heap.size + 1 + 1 by omega) (.slice (some ⟨g3, 0, none⟩) nn cap3))
    have HTf := hid ((HT3.out.set0 (z' := (n : Int))).set1 (.slice (some ⟨g3, 0, none⟩) nn cap3))
    have HOf := hid (own_far9 (own_far9 HO3.out (p := ⟨w.heap.size + 1 + 1, 0, none⟩) hgT (.int .i64 (n : Int))) (p := ⟨w.heap.size + 1 + 1, 1, none⟩) hgT (.slice (some ⟨g3, 0, none⟩) nn cap3))
    have HBf := hid ((HB3.out.setCell (p := ⟨w.heap.size + 1 + 1, 0, none⟩) (show w.heap.size ≤ w.heap.size + 1 + 1 by omega) (.int .i64 (n : Int))).setCell (p := ⟨w.heap.size + 1 + 1, 1, none⟩) (show w.heap.size ≤ w.heap.size + 1 + 1 by omega) (.slice (some ⟨g3, 0, none⟩) nn cap3))
    clear HA HR HB HO HE0 HE1 HTX HTY HA3 HR3 HB3 HO3 HT3 a0 a1 a5 a6 e0 e1 ef0 ef1 hg3
    generalize (w3.setCell ⟨w.heap.size + 1 + 1, 0, none⟩ (.int .i64 (n : Int))).setCell ⟨w.heap.size + 1 + 1, 1, none⟩ (.slice (some ⟨g3, 0, none⟩) nn cap3) = w4 at *
    have t1 := HTf.out.c1
    have p0 := HAf.out.c0
    obtain ⟨g', cap', hv, hgb3, hgl3, hc, hf⟩ := row_at9 HOf.out (j := x + k) hx144
    cases hv
    have i0' : (0 : Int) ≤ (x : Int) + (k : Int) := by omega
    have i1' : (x : Int) + (k : Int) < (nn : Int) := by omega
    have it : ((x : Int) + (k : Int)).toNat = x + k := by omega
    have iw : IntKind.i64.wrap ((x : Int) + (k : Int)) = (x : Int) + (k : Int) := IntWalk.i64_in _ (by omega)
    have hgA : g3 ≠ w.heap.size := by omega
    have hgR : g3 ≠ w.heap.size + 1 := by omega
    have HAg := hid (HAf.out.far (p := ⟨g3, x + k, none⟩) (show w.heap.size ≠ g3 by omega) (.int .i64 (r : Int)))
    have HRg := hid (HRf.out.far (p := ⟨g3, x + k, none⟩) (show w.heap.size + 1 ≠ g3 by omega) (.int .i64 (r : Int)))
    have HTg := hid (HTf.out.far (p := ⟨g3, x + k, none⟩) (show (w.heap.size + 1 + 1) ≠ g3 from fun e => hgT e.symm) (.int .i64 (r : Int)))
    have HOg := hid (own_put9 HOf.out (x + k) r)
    have HBg := hid (HBf.out.setCell (p := ⟨g3, x + k, none⟩) (show w.heap.size ≤ g3 by omega) (.int .i64 (r : Int)))
    go_upto_region 3 with fail
    clear t1 p0 hc hf i0' i1' it iw HAf HRf HTf HOf HBf
    generalize w4.setCell ⟨g3, x + k, none⟩ (.int .i64 (r : Int)) = w5 at *
    have t0 := HTg.out.c0
    have t1 := HTg.out.c1
    have p0 := HAg.out.c0
    have r0 := HRg.out.c0
    have r1 := HRg.out.c1
    have rf0 := HRg.out.fr 0
    have rf1 := HRg.out.fr 1
    obtain ⟨g', cap', hv, hgb3, hgl3, hc, hf⟩ := row_at9 HOg.out (j := y + i) hy144
    cases hv
    have i0' : (0 : Int) ≤ (y : Int) + (i : Int) := by omega
    have i1' : (y : Int) + (i : Int) < (nn : Int) := by omega
    have it : ((y : Int) + (i : Int)).toNat = y + i := by omega
    have iw : IntKind.i64.wrap ((y : Int) + (i : Int)) = (y : Int) + (i : Int) := IntWalk.i64_in _ (by omega)
    have iz1 : ¬ ((y : Int) + (i : Int) < 0) := by omega
    have iz2 : ¬ ((nn : Int) ≤ (y : Int) + (i : Int)) := by omega
    have id0 : decide ((0 : Int) ≤ (y : Int) + (i : Int)) = true := by simp; omega
    have id1 : decide ((y : Int) + (i : Int) < (nn : Int)) = true := by simp; omega
    have id2 : decide (y + i < nn) = true := by simp; omega
    have iwy : IntKind.i64.wrap (y : Int) = (y : Int) := IntWalk.i64_in _ (by omega)
    have n1 : ¬ (w.heap.size + 1 + 1) = g3 := fun e => hgT e.symm
    have n2 : ¬ g3 = w.heap.size + 1 := hgR
    have n3 : ¬ w.heap.size + 1 = g3 := fun e => hgR e.symm
    have n4 : ¬ g3 = (w.heap.size + 1 + 1) := hgT
    have n5 : ¬ (w.heap.size + 1 + 1) = w.heap.size + 1 := by omega
    have n6 : ¬ w.heap.size + 1 = (w.heap.size + 1 + 1) := by omega
    have HOh := hid (own_put9 HOg.out (y + i) (tpn r))
    have HOi := hid (own_far9 (own_far9 HOh.out (p := ⟨w.heap.size + 1, 0, none⟩) n2 (.int .i64 (n : Int))) (p := ⟨w.heap.size + 1, 1, none⟩) n2 (.slice (some ⟨g3, 0, none⟩) nn cap3))
    have HBi := hid (((HBg.out.setCell (p := ⟨g3, y + i, none⟩) (show w.heap.size ≤ g3 by omega) (.int .i64 ((tpn r : Nat) : Int))).setCell (p := ⟨w.heap.size + 1, 0, none⟩) (by simp) (.int .i64 (n : Int))).setCell (p := ⟨w.heap.size + 1, 1, none⟩) (by simp) (.slice (some ⟨g3, 0, none⟩) nn cap3))
    have HTN := hid (l1Turn_any r hr)
    go_region_with (first | (go_at_call 51; (with_reducible refine (HTN.out _).mono ?_); rintro e w' ⟨rfl, rfl⟩) | fail)
    all_goals
      go_wp2_with fail
      refine bodyPost_ret (by simp [results, Tryd.results57, go_sem, *]; try rfl) rfl ?_
      exact ⟨⟨_, rfl, HOi.out⟩, (show Below _ _ _ from ⟨HBi.out.os, HBi.out.tape, HBi.out.output, HBi.out.size, HBi.out.block⟩)⟩
end Go.Proofs.YtmdgkhebefnfeaaDoor.C
