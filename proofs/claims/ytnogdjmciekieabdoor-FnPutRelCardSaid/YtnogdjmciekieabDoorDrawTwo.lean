/- The draws of chapter 2. -/
import Derived.Test.YtnogdjmciekieabDoorInts
import Derived.Test.YtnogdjmciekieabDoorTwo
namespace Go.Proofs.YtnogdjmciekieabDoor.C
open Go.RowKit
set_option linter.unusedVariables false
set_option linter.unusedSimpArgs false
/-- What a draw of one interval leaves, the interval being good. -/
def DrewI (good : Int → Int → Prop) (B q m : Nat) (w : World) (e : Ending) (w' : World) : Prop :=
  ∃ f t : Int, good f t ∧ e = .returned (.agg #[.int .i64 f, .int .i64 t]) ∧ Rd B w' q m ∧ Wr q w w'
theorem l2Draw_any (B q m : Nat) (w : World) (h : Rd B w q m) (hm : m ≤ 1000000000) (hB : B ≤ w.heap.size) :
    Calls Tryd.prog 96 #[.pointer (some ⟨q, 0, none⟩)] w (DrewI (fun f t => 0 ≤ f ∧ f ≤ 5 ∧ f < t ∧ t ≤ f + 5) B q (m + 2) w) := by
  have hq := h.lt
  have HS := AllLt.start w; go_enter Tryd.func96, Tryd.ntmps96
  go_wp2_with fail
  refine (pick_any B q m _ _ (h.alloc _) (by omega) (by omega) (by omega)).mono ?_
  rintro e w1 ⟨k, hk, rfl, hR, hW⟩
  have c0 : w1.cell? ⟨w.heap.size, 0, none⟩ = some (.int .i64 0) := by rw [hW.cell (by simp) (by omega)]; simp [go_sem]
  have c1 : w1.cell? ⟨w.heap.size, 1, none⟩ = some (.int .i64 0) := by rw [hW.cell (by simp) (by omega)]; simp [go_sem]
  have hf : ∀ i, w1.frozen? ⟨w.heap.size, i, none⟩ = false := fun i => by rw [hW.frozen (by simp) (by omega)]; simp [go_sem]
  have hz : w.heap.size < w1.heap.size := by have := hW.size; simp at this; omega
  have hW0 := (Wr.alloc q w (.cells #[.int .i64 0, .int .i64 0] 46)).trans hW
  clear hW
  go_wp2_with fail
  refine (pick_any B q (m + 1) _ _ hR (by omega) (by omega) (by omega)).mono ?_
  rintro e w2 ⟨j, hj, rfl, hR2, hW2⟩
  have d0 : w2.cell? ⟨w.heap.size, 0, none⟩ = some (.int .i64 0) := by rw [hW2.cell hz (by omega)]; exact c0
  have d1 : w2.cell? ⟨w.heap.size, 1, none⟩ = some (.int .i64 0) := by rw [hW2.cell hz (by omega)]; exact c1
  have hf2 : ∀ i, w2.frozen? ⟨w.heap.size, i, none⟩ = false := fun i => by rw [hW2.frozen hz (by omega)]; exact hf i
  have hW3 := hid (hW0.trans hW2)
  have hR3 := hid hR2
  have hq2 := hid hq
  clear c0 c1 hf hR hW0 hW2 hR2 h
  go_wp2
  refine bodyPost_ret (by simp [results, Tryd.results96, go_sem, *]; try rfl) rfl ?_
  exact ⟨_, _, by omega, rfl, (hR3.out.setOther hB (by omega) _ _).setOther hB (by omega) _ _, (hW3.out.setNew (Nat.le_refl _) _ _).setNew (Nat.le_refl _) _ _⟩
set_option maxHeartbeats 2000000 in
theorem l2Open_any (B q m : Nat) (w : World) (h : Rd B w q m) (hm : m ≤ 1000000000) (hB : B ≤ w.heap.size) :
    Calls Tryd.prog 97 #[.pointer (some ⟨q, 0, none⟩)] w (DrewI (fun f t => I64 f ∧ I64 t) B q (m + 4) w) := by
  have hq := h.lt
  have HS := AllLt.start w; go_enter Tryd.func97, Tryd.ntmps97
  go_wp2_with fail
  refine (l2Draw_any B q m _ (h.alloc _) (by omega) (by simp; omega)).mono ?_
  rintro e w1 ⟨f, t, ⟨hg1, hg2, hg3, hg4⟩, rfl, hR, hW⟩
  have c0 : w1.cell? ⟨w.heap.size, 0, none⟩ = some (.int .i64 0) := by rw [hW.cell (by simp) (by omega)]; simp [go_sem]
  have c1 : w1.cell? ⟨w.heap.size, 1, none⟩ = some (.int .i64 0) := by rw [hW.cell (by simp) (by omega)]; simp [go_sem]
  have hf : ∀ i, w1.frozen? ⟨w.heap.size, i, none⟩ = false := fun i => by rw [hW.frozen (by simp) (by omega)]; simp [go_sem]
  have hz : w.heap.size < w1.heap.size := by have := hW.size; simp at this; omega
  have hW0 := (Wr.alloc q w (.cells #[.int .i64 0, .int .i64 0] 46)).trans hW
  have hq1 := hR.lt
  clear hW h
  go_wp2_with fail
  refine (pick_any B q (m + 2) _ _ (hR.alloc _) (by omega) (by omega) (by omega)).mono ?_
  rintro e w2 ⟨k, hk, rfl, hR2, hW2⟩
  have hz2 : w1.heap.size < w2.heap.size := by have := hW2.size; simp at this; omega
  have x0 : w2.cell? ⟨w.heap.size, 0, none⟩ = some (.int .i64 0) := by rw [hW2.cell (by simp; omega) (by omega), (Wr.alloc q w1 _).cell hz (by omega)]; exact c0
  have x1 : w2.cell? ⟨w.heap.size, 1, none⟩ = some (.int .i64 0) := by rw [hW2.cell (by simp; omega) (by omega), (Wr.alloc q w1 _).cell hz (by omega)]; exact c1
  have x2 : w2.cell? ⟨w1.heap.size, 0, none⟩ = some (.int .i64 f) := by rw [hW2.cell (by simp) (by omega)]; simp [go_sem]
  have x3 : w2.cell? ⟨w1.heap.size, 1, none⟩ = some (.int .i64 t) := by rw [hW2.cell (by simp) (by omega)]; simp [go_sem]
  have g0 : ∀ i, w2.frozen? ⟨w.heap.size, i, none⟩ = false := fun i => by rw [hW2.frozen (by simp; omega) (by omega), (Wr.alloc q w1 _).frozen hz (by omega)]; exact hf i
  have g1 : ∀ i, w2.frozen? ⟨w1.heap.size, i, none⟩ = false := fun i => by rw [hW2.frozen (by simp) (by omega)]; simp [go_sem]
  have e1 : ¬ w.heap.size = w1.heap.size := by omega
  have e2 : ¬ w1.heap.size = w.heap.size := by omega
  have HR := hid (hR2.mono (show m + 2 + 1 ≤ m + 4 by omega))
  have HW := hid ((hW0.trans (Wr.alloc q w1 _)).trans hW2)
  clear c0 c1 hf hW0 hW2 hR HS
  by_cases k0 : k = 0
  · subst k0
    clear hR2
    go_wp2
    refine bodyPost_ret (by simp [results, Tryd.results97, go_sem, *]; try rfl) rfl ?_
    exact ⟨_, _, by unfold I64; omega, rfl, by (repeat' (first | exact HR.out | refine Rd.setOther ?_ ?_ ?_ _ _ | omega)), by (repeat' (first | exact HW.out | refine Wr.setNew ?_ ?_ _ _ | omega))⟩
  · by_cases k1 : k = 1
    · subst k1
      clear HR
      go_wp2_with fail
      refine (num_new B q (m + 3) _ I64 [1000000, 1000001, 9223372036854775807] 3 _ _ hR2 (by simp) rfl (by omega) (by omega) (by omega) (by unfold I64; decide)).mono ?_
      rintro e w3 ⟨v, hv, rfl, hR3, hW3⟩
      have hz3 : w1.heap.size < w3.heap.size := by have := hW3.size; omega
      have y0 : w3.cell? ⟨w.heap.size, 0, none⟩ = some (.int .i64 0) := by rw [hW3.cell (by omega) (by omega)]; exact x0
      have y1 : w3.cell? ⟨w.heap.size, 1, none⟩ = some (.int .i64 0) := by rw [hW3.cell (by omega) (by omega)]; exact x1
      have y2 : w3.cell? ⟨w1.heap.size, 0, none⟩ = some (.int .i64 f) := by rw [hW3.cell (by omega) (by omega)]; exact x2
      have y3 : w3.cell? ⟨w1.heap.size, 1, none⟩ = some (.int .i64 t) := by rw [hW3.cell (by omega) (by omega)]; exact x3
      have i0 : ∀ i, w3.frozen? ⟨w.heap.size, i, none⟩ = false := fun i => by rw [hW3.frozen (by omega) (by omega)]; exact g0 i
      have i1 : ∀ i, w3.frozen? ⟨w1.heap.size, i, none⟩ = false := fun i => by rw [hW3.frozen (by omega) (by omega)]; exact g1 i
      have HV := hid hv
      have HR := hid hR3
      have HW := hid (HW.out.trans hW3)
      clear x0 x1 x2 x3 g0 g1 hR2 hR3 hW3 hv
      go_wp2
      refine bodyPost_ret (by simp [results, Tryd.results97, go_sem, *]; try rfl) rfl ?_
      exact ⟨_, _, ⟨by unfold I64; omega, HV.out⟩, rfl, by (repeat' (first | exact HR.out | refine Rd.setOther ?_ ?_ ?_ _ _ | omega)), by (repeat' (first | exact HW.out | refine Wr.setNew ?_ ?_ _ _ | omega))⟩
    · by_cases k2 : k = 2
      · subst k2
        clear HR
        go_wp2_with fail
        refine (num_new B q (m + 3) _ I64 [-1000000, -1000001, 20] 3 _ _ hR2 (by simp) rfl (by omega) (by omega) (by omega) (by unfold I64; decide)).mono ?_
        rintro e w3 ⟨v, hv, rfl, hR3, hW3⟩
        have hz3 : w1.heap.size < w3.heap.size := by have := hW3.size; omega
        have y0 : w3.cell? ⟨w.heap.size, 0, none⟩ = some (.int .i64 0) := by rw [hW3.cell (by omega) (by omega)]; exact x0
        have y1 : w3.cell? ⟨w.heap.size, 1, none⟩ = some (.int .i64 0) := by rw [hW3.cell (by omega) (by omega)]; exact x1
        have y2 : w3.cell? ⟨w1.heap.size, 0, none⟩ = some (.int .i64 f) := by rw [hW3.cell (by omega) (by omega)]; exact x2
        have y3 : w3.cell? ⟨w1.heap.size, 1, none⟩ = some (.int .i64 t) := by rw [hW3.cell (by omega) (by omega)]; exact x3
        have i0 : ∀ i, w3.frozen? ⟨w.heap.size, i, none⟩ = false := fun i => by rw [hW3.frozen (by omega) (by omega)]; exact g0 i
        have i1 : ∀ i, w3.frozen? ⟨w1.heap.size, i, none⟩ = false := fun i => by rw [hW3.frozen (by omega) (by omega)]; exact g1 i
        have HV := hid hv
        have HR := hid hR3
        have HW := hid (HW.out.trans hW3)
        clear x0 x1 x2 x3 g0 g1 hR2 hR3 hW3 hv
        go_wp2
        refine bodyPost_ret (by simp [results, Tryd.results97, go_sem, *]; try rfl) rfl ?_
        exact ⟨_, _, ⟨HV.out, by unfold I64; omega⟩, rfl, by (repeat' (first | exact HR.out | refine Rd.setOther ?_ ?_ ?_ _ _ | omega)), by (repeat' (first | exact HW.out | refine Wr.setNew ?_ ?_ _ _ | omega))⟩
      · have b0 : ((k : Int) == 0) = false := by simp; omega
        have b1 : ((k : Int) == 1) = false := by simp; omega
        have b2 : ((k : Int) == 2) = false := by simp; omega
        clear hR2
        go_wp2
        refine bodyPost_ret (by simp [results, Tryd.results97, go_sem, *]; try rfl) rfl ?_
        exact ⟨_, _, by unfold I64; omega, rfl, by (repeat' (first | exact HR.out | refine Rd.setOther ?_ ?_ ?_ _ _ | omega)), by (repeat' (first | exact HW.out | refine Wr.setNew ?_ ?_ _ _ | omega))⟩
/-- What a drawing function of one interval leaves. -/
def OutI (w : World) (e : Ending) (w' : World) : Prop := ∃ f t : Int, I64 f ∧ I64 t ∧ e = .returned (.agg #[.int .i64 f, .int .i64 t]) ∧ Below w.heap.size w w'
end Go.Proofs.YtnogdjmciekieabDoor.C
