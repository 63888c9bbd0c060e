/- The model's table of a network, opened from its text. -/
import Derived.Test.YtholffjadnaloaaDoorNetQ
import Derived.Deep.RegionLaw
namespace Go.Proofs.YtholffjadnaloaaDoor.C
open Go.RowKit
set_option linter.unusedVariables false
set_option linter.unusedSimpArgs false
theorem row_at {w : World} {b T m : Nat} {u : Value} {L : Nat → Nat} (h : w.ownsRow b T 1 u m (rowL L m)) {j : Nat} (hj : j < m) :
    ∃ g cap, u = .slice (some ⟨g, 0, none⟩) m cap ∧ b ≤ g ∧ g < w.heap.size ∧ w.cell? ⟨g, j, none⟩ = some (.int .i64 ((L j : Nat) : Int)) ∧ w.frozen? ⟨g, j, none⟩ = false := by
  have h0 := h
  rcases h.2 with ⟨_, hn⟩ | ⟨g, cap, cur, rfl, hB, hg, h1, h2, h3, h4⟩
  · omega
  · refine ⟨g, cap, rfl, hB, (Array.getElem?_eq_some_iff.1 hg).1, ?_, frozen_of_row w g j _ _ hg⟩
    have ha : ∀ j, (⟨g, 0, none⟩ : Addr).add j = ⟨g, j, none⟩ := fun j => by unfold Addr.add; split <;> simp_all
    have c1 := h0.cells (g := g) rfl j (.int .i64 ((L j : Nat) : Int)) (by simp [rowL, hj])
    rw [ha] at c1
    exact c1
/-- a row with another relation at a place -/
def updL (L : Nat → Nat) (j r : Nat) : Nat → Nat := fun x => if x = j then r else L x
theorem rowL_set (L : Nat → Nat) (m j r : Nat) : (rowL L m).set j (.int .i64 ((r : Nat) : Int)) = rowL (updL L j r) m := by
  apply List.ext_getElem?
  intro y
  rw [List.getElem?_set]
  by_cases e : j = y
  · subst e
    by_cases hj : j < m <;> simp [rowL, updL, hj]
  · have e' : ¬ y = j := fun h => e h.symm
    simp [rowL, updL, e, e']
    by_cases hy : y < m <;> simp [hy, e']
theorem own_put {w : World} {b T m g cap : Nat} {L : Nat → Nat} (h : w.ownsRow b T 1 (.slice (some ⟨g, 0, none⟩) m cap) m (rowL L m)) (j r : Nat) : (w.setCell ⟨g, j, none⟩ (.int .i64 ((r : Nat) : Int))).ownsRow b T 1 (.slice (some ⟨g, 0, none⟩) m cap) m (rowL (updL L j r) m) := by
  obtain ⟨h1, h2⟩ := h
  refine ⟨by simp [rowL], .inr ?_⟩
  rcases h2 with ⟨hv, _⟩ | ⟨g', cap', cur, hv, hB, hg, e1, e2, e3, e4⟩
  · cases hv
  · cases hv
    refine ⟨g, cap, cur.setIfInBounds j (.int .i64 ((r : Nat) : Int)), rfl, hB, heap_setCell_same w g _ _ _ _ hg, e1, e2, by simpa using e3, ?_⟩
    rw [← rowL_set, ← e4, Array.toList_setIfInBounds]
    exact List.take_set
theorem own_ext {w : World} {b T m : Nat} {u : Value} {L M : Nat → Nat} (h : w.ownsRow b T 1 u m (rowL L m)) (e : ∀ x, x < m → L x = M x) : w.ownsRow b T 1 u m (rowL M m) := by
  have : rowL L m = rowL M m := by
    unfold rowL
    apply List.map_congr_left
    intro x hx
    rw [e x (List.mem_range.1 hx)]
  rw [← this]; exact h
theorem nk_alloc {w : World} {g : Nat} {z : Int} {s : ByteArray} (h : Nk w g z s) (o : Obj) : Nk (w.alloc o) g z s := (Below.heap_alloc w o g h.lt).trans h
theorem tk_grown {wi w1 w3 : World} {row : Option Nat} {g : Nat} {z : Int} {v : Value} (h : Tk wi g z v) (hg : w1.grownBy w3 row) (hp : Below wi.heap.size wi w1) (hne : some g ≠ row) : Tk w3 g z v :=
  (hg.block g (Nat.lt_of_lt_of_le h.lt hp.size) hne).trans ((hp.block g h.lt).trans h)
theorem nk_grown {wi w1 w3 : World} {row : Option Nat} {g : Nat} {z : Int} {s : ByteArray} (h : Nk wi g z s) (hg : w1.grownBy w3 row) (hp : Below wi.heap.size wi w1) (hne : some g ≠ row) : Nk w3 g z s :=
  (hg.block g (Nat.lt_of_lt_of_le h.lt hp.size) hne).trans ((hp.block g h.lt).trans h)
set_option maxHeartbeats 4000000 in
set_option maxRecDepth 100000 in
theorem l5Open_any (n : Nat) (h6 : n ≤ 6) (R : Nat → Nat → Nat) (hR : ∀ i k, R i k < 8192) (w : World) :
    Calls Tryd.prog 53 #[.agg #[.int .i64 n, .string (netS n R)]] w fun e w' => (∃ u, e = .returned (.agg #[.int .i64 n, u]) ∧ w'.ownsRow (w.heap.size + 1 + 1 + 1) 3 1 u (n * n) (rowL (fun x => R (x / n) (x % n)) (n * n))) ∧ Below w.heap.size w w' := by
  obtain ⟨i0, hi0, hz0, hz1, hz2⟩ := info_parts netInt
  have HD0 : ∀ x, x < n * n → nb (dgs (netS n R) x) = ((R (x / n) (x % n) : Nat) : Int) := fun x hx => by rw [dgs_net n R hx, nb_dig (by have := hR (x / n) (x % n); omega)]
  have h36 : n * n ≤ 36 := Nat.mul_le_mul h6 h6
  have hsz := netS_size n R
  obtain ⟨L, hL⟩ : ∃ L : Nat → Nat, L = fun x => R (x / n) (x % n) := ⟨_, rfl⟩
  have HLT := hid (show ∀ x, L x < 8192 from fun x => by rw [hL]; exact hR _ _)
  have HD := hid (show ∀ x, x < n * n → nb (dgs (netS n R) x) = ((L x : Nat) : Int) from fun x hx => by rw [hL]; exact HD0 x hx)
  rw [← hL]
  clear HD0 hR hL
  generalize netS n R = s at *
  generalize n * n = nn at *
  have HS4 := hid hsz
  clear hsz
  have HS := AllLt.start w; go_enter Tryd.func53, Tryd.ntmps53
  go_wp2_with fail
  go_loopw [4] (fun a wr => ∃ x : Nat, x ≤ nn ∧ a = .int .i64 (4 * (x : Int)) ∧ ∃ u, Hid (Tk wr (w.heap.size + 1 + 1) n u) ∧ Hid (wr.ownsRow (w.heap.size + 1 + 1 + 1) 3 1 u x (rowL L x)) ∧ Hid (Tk wr (w.heap.size + 1) 0 (.slice none 0 0)) ∧ Hid (Nk wr w.heap.size n s) ∧ Hid (Below w.heap.size w wr) ∧ Hid (w.heap.size + 1 + 1 + 1 ≤ wr.heap.size)) (fun a _ => 4 * nn - (intOf a).toNat)
  case atStart =>
    refine ⟨0, by omega, rfl, .slice none 0 0, ?_, ?_, ?_, ?_, ?_, ?_⟩
    · have h := Tk.made ((w.alloc (.cells #[.int .i64 (n : Int), .string s] 26)).alloc (.cells #[.int .i64 0, .slice none 0 0] 61)) n (.slice none 0 0)
      rw [World.size_alloc, World.size_alloc] at h
      exact hid h
    · exact hid (World.ownsRow_nil _ _ _ _)
    · have h := (Tk.made (w.alloc (.cells #[.int .i64 (n : Int), .string s] 26)) 0 (.slice none 0 0)).alloc (.cells #[.int .i64 (n : Int), .slice none 0 0] 61)
      rw [World.size_alloc] at h
      exact hid h
    · exact hid (nk_alloc (nk_alloc (Nk.made w n s) _) _)
    · exact hid ((((Below.refl _ _).alloc (Nat.le_refl _) _).alloc (by simp) _).alloc (by simp; omega) _)
    · exact hid (by rw [World.size_alloc, World.size_alloc, World.size_alloc]; omega)
  case round =>
    obtain ⟨x, hx, rfl, u, HT, HO, HR, HK, HB, HZ⟩ := hrel
    clear HS
    obtain ⟨wi, rfl⟩ : ∃ wi : World, wi = wr := ⟨_, rfl⟩
    have k1 := HK.out.c1
    by_cases hxn : x < nn
    · have hdi : decide (4 * (x : Int) < (s.size : Int)) = true := by have := HS4.out; simp; omega
      have t1 := HT.out.c1
      have hf := HT.out.fr 1
      have hss := HS4.out
      have hsl := slice_dgs s x (by omega)
      have hse : s.extract (4 * (x : Int)).toNat (4 * (x : Int) + 4).toNat = dgs s x := by
        rw [show (4 * (x : Int)).toNat = 4 * x by omega, show (4 * (x : Int) + 4).toNat = 4 * x + 4 by omega]; rfl
      have b0 : (0 : Int) ≤ 4 * (x : Int) := by omega
      have b1 : 4 * (x : Int) ≤ 4 * (x : Int) + 4 := by omega
      have b2 : 4 * (x : Int) + 4 ≤ (s.size : Int) := by omega
      have hw4 : IntKind.i64.wrap (4 * (x : Int) + 4) = 4 * (x : Int) + 4 := IntWalk.i64_in _ (by omega)
      have HN := hid (HD.out x hxn)
      have HC := hid (l5Number_any (dgs s x) (dgs_size HS4.out hxn))
      have hne2 : some (w.heap.size + 1 + 1) ≠ u.ownBlock := fun e => by have := (HO.out.lt _ e.symm).1; omega
      have hne1 : some (w.heap.size + 1) ≠ u.ownBlock := fun e => by have := (HO.out.lt _ e.symm).1; omega
      have hne0 : some w.heap.size ≠ u.ownBlock := fun e => by have := (HO.out.lt _ e.symm).1; omega
      have H2 := hid hne2
      have H1 := hid hne1
      have H0 := hid hne0
      have hzz : w.heap.size + 1 + 1 < wi.heap.size := by have := HZ.out; omega
      have hzn : ¬ w.heap.size + 1 + 1 = wi.heap.size := by omega
      have hzm : ¬ wi.heap.size = w.heap.size + 1 + 1 := by omega
      have t2 : ∀ o : Obj, (wi.drew.alloc o).cell? ⟨w.heap.size + 1 + 1, 1, none⟩ = some u := fun o => (HT.out.below ((Below.refl wi.heap.size wi).drew.alloc (Nat.le_refl _) o) hzz).c1
      clear hss hne2 hne1 hne0
      go_wp2_with fail
      go_region_law (first
        | (go_simp; go_at_call 76; (with_reducible refine (HC.out _).mono ?_); rintro e w' ⟨rfl, rfl⟩; rw [HN.out])
        | (refine step_append_lies _ (by rfl) _ _ 33 (by rfl) (w.heap.size + 1 + 1 + 1) 3 i0 _ 1 8 Tryd.underlying33 hi0 hz0 hz1 hz2 rfl (by decide) u x (rowL L x) (by rfl) (own_below' HO.out (by (repeat' (first | (with_reducible exact Below.refl _ _) | (with_reducible refine Below.setCell ?_ ?_ _) | (with_reducible refine below_drewN' ?_ _) | (with_reducible refine below_drew' ?_) | (with_reducible refine Below.alloc ?_ ?_ _) | (with_reducible assumption) | go_size)))) ⟨wi.heap.size, 0, none⟩ 1 1 [.int .i64 ((L x : Nat) : Int)] (by rfl) (by rfl) (World.news_of_block (cs := #[.int .i64 ((L x : Nat) : Int)]) (fr := (0, 0)) (heap_alloc_new _ _)) (by simp [Value.oneCell']) (by omega) (by unfold maxLen; omega) (by omega) (by have := HZ.out; simp; omega) _ rfl ?_
           intro g cap w3 hown hgrow _ hlt
           have HT3 := hid (tk_grown HT.out hgrow (by (repeat' (first | (with_reducible exact Below.refl _ _) | (with_reducible refine Below.setCell ?_ ?_ _) | (with_reducible refine below_drewN' ?_ _) | (with_reducible refine below_drew' ?_) | (with_reducible refine Below.alloc ?_ ?_ _) | (with_reducible assumption) | go_size))) H2.out)
           have HR3 := hid (tk_grown HR.out hgrow (by (repeat' (first | (with_reducible exact Below.refl _ _) | (with_reducible refine Below.setCell ?_ ?_ _) | (with_reducible refine below_drewN' ?_ _) | (with_reducible refine below_drew' ?_) | (with_reducible refine Below.alloc ?_ ?_ _) | (with_reducible assumption) | go_size))) H1.out)
           have HK3 := hid (nk_grown HK.out hgrow (by (repeat' (first | (with_reducible exact Below.refl _ _) | (with_reducible refine Below.setCell ?_ ?_ _) | (with_reducible refine below_drewN' ?_ _) | (with_reducible refine below_drew' ?_) | (with_reducible refine Below.alloc ?_ ?_ _) | (with_reducible assumption) | go_size))) H0.out)
           have HB3 := hid ((HB.out.trans (Below.mono (show Below wi.heap.size wi _ from by (repeat' (first | (with_reducible exact Below.refl _ _) | (with_reducible refine Below.setCell ?_ ?_ _) | (with_reducible refine below_drewN' ?_ _) | (with_reducible refine below_drew' ?_) | (with_reducible refine Below.alloc ?_ ?_ _) | (with_reducible assumption) | go_size))) HB.out.size)).grown hgrow (by have := HB.out.size; simp; omega) (fun j hj => by have := (HO.out.lt j hj).1; omega))
           have HO3 := hid hown
           have HZ3 := hid (show w.heap.size + 1 + 1 + 1 ≤ w3.heap.size by have := hgrow.size; have := HZ.out; simp at *; omega)
           have t3 := HT3.out.c1
           have f3 := HT3.out.fr 1
           clear hown hgrow hlt))
      all_goals
        go_wp2_with fail
        go_roundw
        case rel =>
          refine ⟨x + 1, by omega, ?_, _, hid (HT3.out.set1 _), ?_, hid (HR3.out.far (p := ⟨w.heap.size + 1 + 1, 1, none⟩) (by simp) _), hid (HK3.out.far (p := ⟨w.heap.size + 1 + 1, 1, none⟩) (show w.heap.size ≠ w.heap.size + 1 + 1 by omega) _), hid (HB3.out.setCell (p := ⟨w.heap.size + 1 + 1, 1, none⟩) (by simp; omega) _), hid (by simpa using HZ3.out)⟩
          · first | go_num | (congr 1; push_cast; omega)
          · rw [← rowL_succ]; exact hid (own_set HO3.out (p := ⟨w.heap.size + 1 + 1, 1, none⟩) (by simp) _)
        case measure => simp [intOf]; omega
    · obtain rfl : x = nn := by omega
      have hdi : decide (4 * (x : Int) < (s.size : Int)) = false := by have := HS4.out; simp; omega
      obtain ⟨ao, n', cap, rfl⟩ : ∃ ao n' cap, u = .slice ao n' cap := by
        rcases HO.out.2 with ⟨hv, _⟩ | ⟨g, cap, cur, hv, _⟩
        · exact ⟨_, _, _, hv⟩
        · exact ⟨_, _, _, hv⟩
      have t0 := HT.out.c0
      have t1 := HT.out.c1
      have r0 := HR.out.c0
      have r1 := HR.out.c1
      have rf0 := HR.out.fr 0
      have rf1 := HR.out.fr 1
      have HQ := hid (own_set (own_set HO.out (p := ⟨w.heap.size + 1, 0, none⟩) (show w.heap.size + 1 < w.heap.size + 1 + 1 + 1 by omega) (.int .i64 (n : Int))) (p := ⟨w.heap.size + 1, 1, none⟩) (show w.heap.size + 1 < w.heap.size + 1 + 1 + 1 by omega) (.slice ao n' cap))
      go_wp2_with fail
      refine bodyPost_ret (by simp [results, Tryd.results53, go_sem, *]; try rfl) rfl ?_
      exact ⟨⟨_, rfl, HQ.out⟩, (HB.out.setCell (p := ⟨w.heap.size + 1, 0, none⟩) (by simp) _).setCell (p := ⟨w.heap.size + 1, 1, none⟩) (by simp) _⟩
end Go.Proofs.YtholffjadnaloaaDoor.C
