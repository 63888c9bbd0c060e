/- Two networks in the model: what both allow, whether one lies within the other. -/
import Derived.Test.YtholffjadnaloaaDoorNts
import Derived.Test.YtholffjadnaloaaDoorNetR
import Derived.Test.YtholffjadnaloaaDoorCloS
import Derived.Deep.DeepCutAuto
import Derived.BigQuiet
namespace Go.Proofs.YtholffjadnaloaaDoor.C
open Go.RowKit
set_option linter.unusedVariables false
set_option linter.unusedSimpArgs false
/-- Numbers in the cells of a block, which may be written. -/
def Rw (w : World) (g nn : Nat) (L : Nat → Nat) : Prop := g < w.heap.size ∧ ∀ j, j < nn → w.cell? ⟨g, j, none⟩ = some (.int .i64 ((L j : Nat) : Int)) ∧ w.frozen? ⟨g, j, none⟩ = false
theorem Rw.below {w w' : World} {g nn : Nat} {L : Nat → Nat} (h : Rw w g nn L) (hb : Below w.heap.size w w') : Rw w' g nn L :=
  ⟨Nat.lt_of_lt_of_le h.1 hb.size, fun j hj => ⟨(hb.cell (p := ⟨g, j, none⟩) h.1).trans (h.2 j hj).1, (hb.frozen (p := ⟨g, j, none⟩) h.1).trans (h.2 j hj).2⟩⟩
theorem Rw.alloc {w : World} {g nn : Nat} {L : Nat → Nat} (h : Rw w g nn L) (o : Obj) : Rw (w.alloc o) g nn L := h.below ((Below.refl _ _).alloc (Nat.le_refl _) o)
theorem Rw.drew {w : World} {g nn : Nat} {L : Nat → Nat} (h : Rw w g nn L) : Rw w.drew g nn L := h
theorem Rw.drewN {w : World} {g nn : Nat} {L : Nat → Nat} (h : Rw w g nn L) (k : Nat) : Rw (w.drewN k) g nn L := h
theorem Rw.far {w : World} {g nn : Nat} {L : Nat → Nat} (h : Rw w g nn L) {x i : Nat} (hx : g ≠ x) (u : Value) : Rw (w.setCell ⟨x, i, none⟩ u) g nn L := by
  have hh := heap_setCell_other w ⟨x, i, none⟩ g u hx
  refine ⟨by simpa using h.1, fun j hj => ⟨(World.cell?_of_block (a := ⟨g, j, none⟩) hh).trans (h.2 j hj).1, (World.frozen?_of_block (a := ⟨g, j, none⟩) hh).trans (h.2 j hj).2⟩⟩
theorem Rw.put {w : World} {g nn i : Nat} {L : Nat → Nat} (h : Rw w g nn L) (hi : i < nn) (r : Nat) : Rw (w.setCell ⟨g, i, none⟩ (.int .i64 ((r : Nat) : Int))) g nn (updL L i r) := by
  refine ⟨by simpa using h.1, fun j hj => ⟨?_, by simpa [go_sem] using (h.2 j hj).2⟩⟩
  have hi2 := (h.2 i hi).1
  have hj2 := (h.2 j hj).1
  by_cases e : j = i
  · subst e
    simp [go_sem, hi2, updL]
  · simp [go_sem, hj2, updL, e]
theorem Rw.congr {w : World} {g nn : Nat} {L M : Nat → Nat} (h : Rw w g nn L) (e : ∀ j, j < nn → L j = M j) : Rw w g nn M := ⟨h.1, fun j hj => by rw [← e j hj]; exact h.2 j hj⟩
theorem Rw.of_own {w : World} {b T m g cap k : Nat} {L : Nat → Nat} (h : w.ownsRow b T 1 (.slice (some ⟨g, 0, none⟩) k cap) m (rowL L m)) (hm : 0 < m) : Rw w g m L := by
  refine ⟨?_, fun j hj => ?_⟩
  · obtain ⟨g', cap', hv, _, hl, _⟩ := row_at h hm
    cases hv; exact hl
  · obtain ⟨g', cap', hv, _, _, h1, h2⟩ := row_at h hj
    cases hv; exact ⟨h1, h2⟩
theorem Rw.ts {w : World} {g m cap : Nat} {L : Nat → Nat} (h : Rw w g m L) : Ts w w.heap.size (.slice (some ⟨g, 0, none⟩) m cap) m L := ⟨_, _, rfl, fun j hj => ⟨g, rfl, h.1, (h.2 j hj).1⟩⟩
set_option maxHeartbeats 1000000 in
theorem sBoth_any (z : Int) (s : ByteArray) (y : Int) (t : ByteArray) (w : World) :
    Calls Tryd.prog 52 #[.agg #[.int .i64 z, .string s], .agg #[.int .i64 y, .string t]] w fun e w' => e = .returned (.bool (botB z s y t)) ∧ Below w.heap.size w w' := by
  have H1 := hid (sNetValid_any z s)
  have H2 := hid (sNetValid_any y t)
  unfold botB
  generalize NV z s = a at *
  generalize NV y t = b at *
  cases a
  · have HS := AllLt.start w; have hn2 := lt2; have hn3 := lt3; have hn4 := lt4; go_enter Tryd.func52, Tryd.ntmps52
    go_wp2_with (first | (go_at_call 95; (with_reducible refine (H1.out _).mono ?_); rintro e w' ⟨rfl, hb⟩; obtain ⟨HB, hz0, hz, hc, hf⟩ := bst (w0 := w) (by go_grown) hb; clear hb; (try simp at hz); (first | ((refine HS.g5 (m := w'.heap.size) ?_ ?_); (focus omega); intro HS) | ((refine HS.g4 (m := w'.heap.size) ?_ ?_); (focus omega); intro HS) | ((refine HS.g3 (m := w'.heap.size) ?_ ?_); (focus omega); intro HS) | ((refine HS.g2 (m := w'.heap.size) ?_ ?_); (focus omega); intro HS) | ((refine HS.g1 (m := w'.heap.size) ?_ ?_); (focus omega); intro HS) | ((refine HS.g0 (m := w'.heap.size) ?_ ?_); (focus omega); intro HS)); have HU := HS; simp only [AllLt] at HU) | (go_at_call 95; (with_reducible refine (H2.out _).mono ?_); rintro e w' ⟨rfl, hb⟩; obtain ⟨HB, hz0, hz, hc, hf⟩ := bst (w0 := w) (by go_grown) hb; clear hb; (try simp at hz); (first | ((refine HS.g5 (m := w'.heap.size) ?_ ?_); (focus omega); intro HS) | ((refine HS.g4 (m := w'.heap.size) ?_ ?_); (focus omega); intro HS) | ((refine HS.g3 (m := w'.heap.size) ?_ ?_); (focus omega); intro HS) | ((refine HS.g2 (m := w'.heap.size) ?_ ?_); (focus omega); intro HS) | ((refine HS.g1 (m := w'.heap.size) ?_ ?_); (focus omega); intro HS) | ((refine HS.g0 (m := w'.heap.size) ?_ ?_); (focus omega); intro HS)); have HU := HS; simp only [AllLt] at HU))
    go_ret
    exact ⟨ret_bool (by simp), by (repeat' (first | (with_reducible exact Below.refl _ _) | (with_reducible refine Below.setCell ?_ ?_ _) | (with_reducible refine below_drewN' ?_ _) | (with_reducible refine below_drew' ?_) | (with_reducible refine Below.alloc ?_ ?_ _) | (with_reducible assumption) | go_size))⟩
  · cases b
    · have HS := AllLt.start w; have hn2 := lt2; have hn3 := lt3; have hn4 := lt4; go_enter Tryd.func52, Tryd.ntmps52
      go_wp2_with (first | (go_at_call 95; (with_reducible refine (H1.out _).mono ?_); rintro e w' ⟨rfl, hb⟩; obtain ⟨HB, hz0, hz, hc, hf⟩ := bst (w0 := w) (by go_grown) hb; clear hb; (try simp at hz); (first | ((refine HS.g5 (m := w'.heap.size) ?_ ?_); (focus omega); intro HS) | ((refine HS.g4 (m := w'.heap.size) ?_ ?_); (focus omega); intro HS) | ((refine HS.g3 (m := w'.heap.size) ?_ ?_); (focus omega); intro HS) | ((refine HS.g2 (m := w'.heap.size) ?_ ?_); (focus omega); intro HS) | ((refine HS.g1 (m := w'.heap.size) ?_ ?_); (focus omega); intro HS) | ((refine HS.g0 (m := w'.heap.size) ?_ ?_); (focus omega); intro HS)); have HU := HS; simp only [AllLt] at HU) | (go_at_call 95; (with_reducible refine (H2.out _).mono ?_); rintro e w' ⟨rfl, hb⟩; obtain ⟨HB, hz0, hz, hc, hf⟩ := bst (w0 := w) (by go_grown) hb; clear hb; (try simp at hz); (first | ((refine HS.g5 (m := w'.heap.size) ?_ ?_); (focus omega); intro HS) | ((refine HS.g4 (m := w'.heap.size) ?_ ?_); (focus omega); intro HS) | ((refine HS.g3 (m := w'.heap.size) ?_ ?_); (focus omega); intro HS) | ((refine HS.g2 (m := w'.heap.size) ?_ ?_); (focus omega); intro HS) | ((refine HS.g1 (m := w'.heap.size) ?_ ?_); (focus omega); intro HS) | ((refine HS.g0 (m := w'.heap.size) ?_ ?_); (focus omega); intro HS)); have HU := HS; simp only [AllLt] at HU))
      go_ret
      exact ⟨ret_bool (by simp), by (repeat' (first | (with_reducible exact Below.refl _ _) | (with_reducible refine Below.setCell ?_ ?_ _) | (with_reducible refine below_drewN' ?_ _) | (with_reducible refine below_drew' ?_) | (with_reducible refine Below.alloc ?_ ?_ _) | (with_reducible assumption) | go_size))⟩
    · have HS := AllLt.start w; have hn2 := lt2; have hn3 := lt3; have hn4 := lt4; go_enter Tryd.func52, Tryd.ntmps52
      go_wp2_with (first | (go_at_call 95; (with_reducible refine (H1.out _).mono ?_); rintro e w' ⟨rfl, hb⟩; obtain ⟨HB, hz0, hz, hc, hf⟩ := bst (w0 := w) (by go_grown) hb; clear hb; (try simp at hz); (first | ((refine HS.g5 (m := w'.heap.size) ?_ ?_); (focus omega); intro HS) | ((refine HS.g4 (m := w'.heap.size) ?_ ?_); (focus omega); intro HS) | ((refine HS.g3 (m := w'.heap.size) ?_ ?_); (focus omega); intro HS) | ((refine HS.g2 (m := w'.heap.size) ?_ ?_); (focus omega); intro HS) | ((refine HS.g1 (m := w'.heap.size) ?_ ?_); (focus omega); intro HS) | ((refine HS.g0 (m := w'.heap.size) ?_ ?_); (focus omega); intro HS)); have HU := HS; simp only [AllLt] at HU) | (go_at_call 95; (with_reducible refine (H2.out _).mono ?_); rintro e w' ⟨rfl, hb⟩; obtain ⟨HB, hz0, hz, hc, hf⟩ := bst (w0 := w) (by go_grown) hb; clear hb; (try simp at hz); (first | ((refine HS.g5 (m := w'.heap.size) ?_ ?_); (focus omega); intro HS) | ((refine HS.g4 (m := w'.heap.size) ?_ ?_); (focus omega); intro HS) | ((refine HS.g3 (m := w'.heap.size) ?_ ?_); (focus omega); intro HS) | ((refine HS.g2 (m := w'.heap.size) ?_ ?_); (focus omega); intro HS) | ((refine HS.g1 (m := w'.heap.size) ?_ ?_); (focus omega); intro HS) | ((refine HS.g0 (m := w'.heap.size) ?_ ?_); (focus omega); intro HS)); have HU := HS; simp only [AllLt] at HU))
      go_ret
      exact ⟨ret_bool (by simp), by (repeat' (first | (with_reducible exact Below.refl _ _) | (with_reducible refine Below.setCell ?_ ?_ _) | (with_reducible refine below_drewN' ?_ _) | (with_reducible refine below_drew' ?_) | (with_reducible refine Below.alloc ?_ ?_ _) | (with_reducible assumption) | go_size))⟩
theorem tk_drew {w : World} {g : Nat} {z : Int} {v : Value} (h : Tk w g z v) : Tk w.drew g z v := h
theorem tk_at {w : World} {g : Nat} {z : Int} {v : Value} (h : g = w.heap.size) : Tk (w.alloc (.cells #[.int .i64 z, v] 61)) g z v := by
  rw [h]; exact Tk.made w z v
theorem Tk.put0' {w : World} {g : Nat} {z : Int} {v : Value} (h : Tk w g z v) (z' : Int) : Tk (w.setCell ⟨g, 0, none⟩ (.int .i64 z')) g z' v := by
  unfold Tk
  rw [heap_setCell_same w g _ _ _ _ h]; rfl
set_option maxHeartbeats 1000000 in
theorem sMeetNets_no (z : Int) (s : ByteArray) (y : Int) (t : ByteArray) (h : botB z s y t = false) (w : World) :
    Calls Tryd.prog 16 #[.agg #[.int .i64 z, .string s], .agg #[.int .i64 y, .string t]] w fun e w' => e = .returned (.tuple #[.agg #[.int .i64 0, .string ⟨#[]⟩], .bool false]) ∧ Below w.heap.size w w' := by
  have HV := hid h
  clear h
  have HS := AllLt.start w; have hn2 := lt2; have hn3 := lt3; have hn4 := lt4; go_enter Tryd.func16, Tryd.ntmps16
  go_wp2_with (first | (go_at_call 52; (with_reducible refine (sBoth_any _ _ _ _ _).mono ?_); rintro e w' ⟨rfl, hb⟩; obtain ⟨HB, hz0, hz, hc, hf⟩ := bst (w0 := w) (by go_grown) hb; clear hb; (try simp at hz); (first | ((refine HS.g5 (m := w'.heap.size) ?_ ?_); (focus omega); intro HS) | ((refine HS.g4 (m := w'.heap.size) ?_ ?_); (focus omega); intro HS) | ((refine HS.g3 (m := w'.heap.size) ?_ ?_); (focus omega); intro HS) | ((refine HS.g2 (m := w'.heap.size) ?_ ?_); (focus omega); intro HS) | ((refine HS.g1 (m := w'.heap.size) ?_ ?_); (focus omega); intro HS) | ((refine HS.g0 (m := w'.heap.size) ?_ ?_); (focus omega); intro HS)); have HU := HS; simp only [AllLt] at HU; rw [HV.out]))
  refine bodyPost_ret (by simp [results, Tryd.results16, go_sem, *]; try rfl) rfl ?_
  exact ⟨rfl, by (repeat' (first | (with_reducible exact Below.refl _ _) | (with_reducible refine Below.setCell ?_ ?_ _) | (with_reducible refine below_drewN' ?_ _) | (with_reducible refine below_drew' ?_) | (with_reducible refine Below.alloc ?_ ?_ _) | (with_reducible assumption) | go_size))⟩
/-- a row of which the first j relations have been met with those of another one -/
def metL (L M : Nat → Nat) (j : Nat) : Nat → Nat := fun x => if x < j then L x &&& M x else L x
theorem metL_at (L M : Nat → Nat) (j : Nat) : metL L M j j = L j := by simp [metL]
theorem metL_put (L M : Nat → Nat) (j : Nat) : updL (metL L M j) j (L j &&& M j) = metL L M (j + 1) := by
  funext x
  unfold updL metL
  by_cases e : x = j
  · subst e; simp
  · rw [if_neg e]
    by_cases h : x < j
    · rw [if_pos h, if_pos (by omega)]
    · rw [if_neg h, if_neg (by omega)]
theorem metL_end (L M : Nat → Nat) (m x : Nat) (h : x < m) : metL L M m x = L x &&& M x := if_pos h
theorem tk_both {w : World} {g : Nat} {z : Int} {v : Value} (h : Tk w g 0 (.slice none 0 0)) : Tk ((w.setCell ⟨g, 0, none⟩ (.int .i64 z)).setCell ⟨g, 1, none⟩ v) g z v := (h.put0' z).set1 v
set_option maxHeartbeats 30000000 in
set_option maxRecDepth 100000 in
theorem sMeetNets_yes (n : Nat) (R S : Nat → Nat → Nat) (hR : OkR n R) (hS : OkR n S) (w : World) :
    Calls Tryd.prog 16 #[.agg #[.int .i64 n, .string (netS n R)], .agg #[.int .i64 n, .string (netS n S)]] w fun e w' => e = .returned (.tuple #[.agg #[.int .i64 n, .string (netS n (meetR R S))], .bool true]) ∧ Below w.heap.size w w' := by
  have HBO := hid (sBoth_any n (netS n R) n (netS n S))
  rw [botB_in hR hS] at HBO
  have HOP := hid (l5Open_any n hR.le R hR.lt)
  have HOQ := hid (l5Open_any n hS.le S hS.lt)
  have h36 : n * n ≤ 36 := Nat.mul_le_mul hR.le hR.le
  have hpos : 0 < n * n := Nat.mul_pos hR.pos hR.pos
  have HCT := hid (show catB (metL (fl n R) (fl n S) (n * n)) (n * n) = netS n (meetR R S) by
    rw [← catB_net]
    unfold catB
    congr 2
    apply congrArg catD
    apply List.map_congr_left
    intro x hx
    rw [metL_end _ _ _ _ (List.mem_range.1 hx)]; rfl)
  have HLR := hid (show ∀ x, fl n R x < 8192 from fun x => hR.lt _ _)
  have HLS := hid (show ∀ x, fl n S x < 8192 from fun x => hS.lt _ _)
  have HFR := hid (show ∀ (b T : Nat) (u : Value) (wx : World), wx.ownsRow b T 1 u (n * n) (rowL (fun x => R (x / n) (x % n)) (n * n)) → wx.ownsRow b T 1 u (n * n) (rowL (fl n R) (n * n)) from fun _ _ _ _ h => h)
  clear hR hS
  generalize netS n (meetR R S) = st at *
  generalize netS n R = s at *
  generalize hst : netS n S = t at *
  clear hst
  have HKm := hid (nk_al (nk_al (Nk.made w n s) (.cells #[.int .i64 n, .string t] 26)) (.cells #[.int .i64 0, .string ⟨#[]⟩] 26))
  have HKn := hid (nk_al (Nk.made (w.alloc (.cells #[.int .i64 n, .string s] 26)) n t) (.cells #[.int .i64 0, .string ⟨#[]⟩] 26))
  have HKr := hid (Nk.made ((w.alloc (.cells #[.int .i64 n, .string s] 26)).alloc (.cells #[.int .i64 n, .string t] 26)) 0 ⟨#[]⟩)
  have HB := hid ((((Below.refl w.heap.size w).alloc (Nat.le_refl _) (.cells #[.int .i64 n, .string s] 26)).alloc (by simp) (.cells #[.int .i64 n, .string t] 26)).alloc (by simp; omega) (.cells #[.int .i64 0, .string ⟨#[]⟩] 26))
  have hz : (((w.alloc (.cells #[.int .i64 n, .string s] 26)).alloc (.cells #[.int .i64 n, .string t] 26)).alloc (.cells #[.int .i64 0, .string ⟨#[]⟩] 26)).heap.size = w.heap.size + 1 + 1 + 1 := by simp only [World.size_alloc]
  simp only [World.size_alloc] at HKn HKr
  have HS := AllLt.start w; go_enter Tryd.func16, Tryd.ntmps16
  go_upto_region 1 with fail
  generalize ((w.alloc (.cells #[.int .i64 n, .string s] 26)).alloc (.cells #[.int .i64 n, .string t] 26)).alloc (.cells #[.int .i64 0, .string ⟨#[]⟩] 26) = w0 at *
  have q0 := HKm.out.c0
  have q1 := HKm.out.c1
  have q2 := HKn.out.c0
  have q3 := HKn.out.c1
  go_wp2_with fail
  (with_reducible refine (HBO.out _).mono ?_)
  rintro e w1 ⟨rfl, hb⟩
  have HB1 := hid (HB.out.trans (hb.mono HB.out.size))
  have hkm := HKm.out.below hb HKm.out.lt
  have hkn := HKn.out.below hb HKn.out.lt
  have HKr1 := hid (HKr.out.below hb HKr.out.lt)
  have hz1 : w.heap.size + 1 + 1 + 1 ≤ w1.heap.size := by have := hb.size; omega
  have hl : w.heap.size < w1.heap.size := by omega
  have hl2 : w.heap.size + 1 < w1.heap.size := by omega
  clear q0 q1 q2 q3 hb HS
  have q0 := hkm.c0
  have q1 := hkm.c1
  have q2 := hkn.c0
  have q3 := hkn.c1
  clear hkm hkn
  have HS := AllLt.start w1
  generalize n * n = nn at *
  go_upto_region 3 with fail
  go_cut [6, 7] (fun s6 s7 wx => ∃ x y g h cap cap' : Nat, s6 = .pointer (some ⟨x, 0, none⟩) ∧ s7 = .pointer (some ⟨y, 0, none⟩) ∧ Tk wx x n (.slice (some ⟨g, 0, none⟩) nn cap) ∧ Tk wx y n (.slice (some ⟨h, 0, none⟩) nn cap') ∧ Rw wx g nn (fl n R) ∧ Rw wx h nn (fl n S) ∧ x ≠ g ∧ y ≠ g ∧ h ≠ g ∧ w1.heap.size ≤ g ∧ Below w1.heap.size w1 wx)
  case first =>
    go_region_held3 (fun wx => wx.cell? ⟨w.heap.size, 0, none⟩ = some (.int .i64 (n : Int)) ∧ wx.cell? ⟨w.heap.size, 1, none⟩ = some (.string s) ∧ wx.cell? ⟨w.heap.size + 1, 0, none⟩ = some (.int .i64 (n : Int)) ∧ wx.cell? ⟨w.heap.size + 1, 1, none⟩ = some (.string t)) (first | exact ⟨q0, q1, q2, q3⟩ | exact ⟨(Below.cell (B := w1.heap.size) (w := w1) (p := ⟨w.heap.size, 0, none⟩) (by go_grown) hl).trans q0, (Below.cell (B := w1.heap.size) (w := w1) (p := ⟨w.heap.size, 1, none⟩) (by go_grown) hl).trans q1, (Below.cell (B := w1.heap.size) (w := w1) (p := ⟨w.heap.size + 1, 0, none⟩) (by go_grown) hl2).trans q2, (Below.cell (B := w1.heap.size) (w := w1) (p := ⟨w.heap.size + 1, 1, none⟩) (by go_grown) hl2).trans q3⟩)
      (first
        | (go_at_call 53; (with_reducible refine (HOP.out _).mono ?_); rintro e w' ⟨⟨u, he, hown⟩, hb⟩; obtain ⟨g, cap, rfl, hg1, hg2⟩ := hown.form hpos; subst he; have HRT := hid (show Rw w' g nn (fl n R) from Rw.of_own hown hpos); clear hown; have HY1 := hid hb; obtain ⟨HB, hz0, hz, hc, hf⟩ := bst (w0 := w1) (by go_grown) hb; clear hb; (try simp at hz); (first | ((refine HS.g5 (m := w'.heap.size) ?_ ?_); (focus omega); intro HS) | ((refine HS.g4 (m := w'.heap.size) ?_ ?_); (focus omega); intro HS) | ((refine HS.g3 (m := w'.heap.size) ?_ ?_); (focus omega); intro HS) | ((refine HS.g2 (m := w'.heap.size) ?_ ?_); (focus omega); intro HS) | ((refine HS.g1 (m := w'.heap.size) ?_ ?_); (focus omega); intro HS) | ((refine HS.g0 (m := w'.heap.size) ?_ ?_); (focus omega); intro HS)); have HU := HS; simp only [AllLt] at HU)
        | (go_at_call 53; (with_reducible refine (HOQ.out _).mono ?_); rintro e w' ⟨⟨u, he, hown⟩, hb⟩; obtain ⟨h, cap', rfl, hh1, hh2⟩ := hown.form hpos; subst he; have HRU := hid (show Rw w' h nn (fl n S) from Rw.of_own hown hpos); have HRT := hid (show Rw w' g nn (fl n R) from Rw.below (by (repeat' first | (with_reducible exact HRT.out) | (with_reducible refine Rw.alloc ?_ _) | (with_reducible refine Rw.drew ?_) | (with_reducible refine Rw.far ?_ (by first | omega | (dsimp only; omega)) _) | fail)) hb); clear hown; have HY2 := hid hb; have HUa := HU; clear HU; obtain ⟨HB, hz0, hz, hc, hf⟩ := bst (w0 := w1) (by go_grown) hb; clear hb; (try simp at hz); (first | ((refine HS.g5 (m := w'.heap.size) ?_ ?_); (focus omega); intro HS) | ((refine HS.g4 (m := w'.heap.size) ?_ ?_); (focus omega); intro HS) | ((refine HS.g3 (m := w'.heap.size) ?_ ?_); (focus omega); intro HS) | ((refine HS.g2 (m := w'.heap.size) ?_ ?_); (focus omega); intro HS) | ((refine HS.g1 (m := w'.heap.size) ?_ ?_); (focus omega); intro HS) | ((refine HS.g0 (m := w'.heap.size) ?_ ?_); (focus omega); intro HS)); have HU := HS; simp only [AllLt] at HU)
        | fail)
    all_goals
      (try simp only [World.size_alloc, heap_drew] at hg1 hh1)
      go_wp2_with fail
      go_meet
      (try clear HU)
      (try clear HUa)
      refine ⟨_, _, g, h, cap, cap', rfl, rfl, ?_, ?_, ?_, ?_, ?_, ?_, ?_, ?_, by (repeat' (first | (with_reducible exact Below.refl _ _) | (with_reducible refine Below.setCell ?_ ?_ _) | (with_reducible refine below_drewN' ?_ _) | (with_reducible refine below_drew' ?_) | (with_reducible refine Below.alloc ?_ ?_ _) | (with_reducible assumption) | go_size))⟩
      · repeat' first | ((with_reducible refine tk_at ?_); (simp; done)) | (with_reducible refine tk_drew ?_) | (with_reducible refine tk_both ?_) | (with_reducible refine Tk.alloc ?_ _) | (with_reducible refine Tk.far ?_ (by first | omega | (dsimp only; omega)) _) | ((with_reducible refine Tk.below ?_ HY2.out ?_); rotate_left; ((try simp only [World.size_alloc, heap_drew]); omega)) | ((with_reducible refine Tk.below ?_ HY1.out ?_); rotate_left; ((try simp only [World.size_alloc, heap_drew]); omega)) | fail
      · repeat' first | ((with_reducible refine tk_at ?_); (simp; done)) | (with_reducible refine tk_drew ?_) | (with_reducible refine tk_both ?_) | (with_reducible refine Tk.alloc ?_ _) | (with_reducible refine Tk.far ?_ (by first | omega | (dsimp only; omega)) _) | ((with_reducible refine Tk.below ?_ HY2.out ?_); rotate_left; ((try simp only [World.size_alloc, heap_drew]); omega)) | ((with_reducible refine Tk.below ?_ HY1.out ?_); rotate_left; ((try simp only [World.size_alloc, heap_drew]); omega)) | fail
      · repeat' first | (with_reducible exact HRT.out) | (with_reducible refine Rw.alloc ?_ _) | (with_reducible refine Rw.drew ?_) | (with_reducible refine Rw.far ?_ (by first | omega | (dsimp only; omega)) _) | fail
      · repeat' first | (with_reducible exact HRU.out) | (with_reducible refine Rw.alloc ?_ _) | (with_reducible refine Rw.drew ?_) | (with_reducible refine Rw.far ?_ (by first | omega | (dsimp only; omega)) _) | fail
      · omega
      · omega
      · omega
      · omega
  case rest =>
    obtain ⟨x, y, g, h, cap, cap', rfl, rfl, hTx, hTy, hG, hH, n1, n2, n3, hgw, hBx⟩ := hcut
    rename_i wc
    have HK3 := hid (HKr1.out.below hBx HKr1.out.lt)
    have HB3 := hid (HB1.out.trans (hBx.mono HB1.out.size))
    have HG := hid hG
    have HH := hid hH
    have HTx := hid hTx
    have HTy := hid hTy
    have hgB : w1.heap.size ≤ wc.heap.size := hBx.size
    clear HS q0 q1 q2 q3 hG hH hBx hTx hTy
    go_wp2_with fail
    go_loopw [8] (fun v wr => ∃ j : Nat, j ≤ nn ∧ v = .int .i64 j ∧ Hid (Rw wr g nn (metL (fl n R) (fl n S) j)) ∧ Hid (Wr g wc wr)) (fun v _ => nn - (intOf v).toNat)
    case atStart => exact ⟨0, by omega, rfl, hid (HG.out.congr fun j _ => by simp [metL]), hid (Wr.refl _ _)⟩
    case round =>
      obtain ⟨j, hj, rfl, HGr, HW⟩ := hrel
      (try clear HS)
      obtain ⟨wi, rfl⟩ : ∃ wi : World, wi = wr := ⟨_, rfl⟩
      have t1 := (HW.out.cell (off := 1) HTx.out.lt n1).trans HTx.out.c1
      by_cases hjn : j < nn
      · have hdj : decide ((j : Int) < (nn : Int)) = true := by simp; omega
        have hdk : decide (j < nn) = true := by simp; omega
        have t2 := (HW.out.cell (off := 1) HTy.out.lt n2).trans HTy.out.c1
        have t3 := (HGr.out.2 j hjn).1
        rw [metL_at] at t3
        have t4 := (HGr.out.2 j hjn).2
        have t5 := (HW.out.cell (off := j) HH.out.1 n3).trans (HH.out.2 j hjn).1
        have hand := i64_and (fl n R j) (fl n S j) (HLR.out j) (HLS.out j)
        have HP := hid (metL_put (fl n R) (fl n S) j)
        generalize fl n R j &&& fl n S j = q at *
        generalize fl n R j = p at *
        generalize fl n S j = p2 at *
        go_wp2_with fail
        go_region
        all_goals
          go_wp2
          go_roundw
          case rel => exact ⟨j + 1, by omega, by go_num, hid (by rw [← HP.out]; exact Rw.put HGr.out hjn q), hid (HW.out.trans ((Wr.setCell wi g j (.int .i64 (q : Int))).drewN 1))⟩
          case measure => simp [intOf]; omega
      · obtain rfl : j = nn := by omega
        have hdj : decide ((j : Int) < (j : Int)) = false := by simp
        have t0 := (HW.out.cell (off := 0) HTx.out.lt n1).trans HTx.out.c0
        have HCL := hid (l5Close_any n (.slice (some ⟨g, 0, none⟩) j cap) j h36 _ (fun x hx => by rw [metL_end _ _ _ _ hx]; exact and_lt (HLR.out x)) wi HGr.out.ts)
        have HBi := hid (HB3.out.trans (HW.out.below (by omega) HB3.out.size))
        have HKi := hid (show Nk wi (w.heap.size + 1 + 1) 0 ⟨#[]⟩ from (HW.out.block _ HK3.out.lt (by omega)).trans HK3.out)
        go_wp2_with fail
        (with_reducible refine HCL.out.mono ?_)
        rintro e w4 ⟨rfl, hb⟩
        rw [HCT.out]
        have hk := HKi.out.below hb HKi.out.lt
        have HB4 := hid (HBi.out.trans (hb.mono HBi.out.size))
        have r0 := hk.c0
        have r1 := hk.c1
        have rf0 := hk.fr 0
        have rf1 := hk.fr 1
        clear hk hb
        go_wp2_with fail
        refine bodyPost_ret (by simp [results, Tryd.results16, go_sem, *]; try rfl) rfl ?_
        exact ⟨rfl, (HB4.out.setCell (p := ⟨w.heap.size + 1 + 1, 0, none⟩) (by simp; omega) _).setCell (p := ⟨w.heap.size + 1 + 1, 1, none⟩) (by simp; omega) _⟩
end Go.Proofs.YtholffjadnaloaaDoor.C
