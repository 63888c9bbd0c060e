/- The draws of chapter 2. -/
import Derived.Test.YtnogdjmciekieaaDoorInts
import Derived.Test.YtnogdjmciekieaaDoorTwo
namespace Go.Proofs.YtnogdjmciekieaaDoor.C
open Go.RowKit
set_option linter.unusedVariables false
set_option linter.unusedSimpArgs false
/-- What a draw of one interval leaves, the interval being good. -/
def DrewI (good : Int → Int → Prop) (B q m : Nat) (w : World) (e : Ending) (w' : World) : Prop :=
  ∃ f t : Int, good f t ∧ e = .returned (.agg #[.int .i64 f, .int .i64 t]) ∧ Rd B w' q m ∧ Wr q w w'
theorem l2Draw_any (B q m : Nat) (w : World) (h : Rd B w q m) (hm : m ≤ 1000000000) (hB : B ≤ w.heap.size) :
    Calls Tryd.prog 123 #[.pointer (some ⟨q, 0, none⟩)] w (DrewI (fun f t => 0 ≤ f ∧ f ≤ 5 ∧ f < t ∧ t ≤ f + 5) B q (m + 2) w) := by
  have hq := h.lt
  have HS := AllLt.start w; go_enter Tryd.func123, Tryd.ntmps123
  go_wp2_with fail
  refine (pick_any B q m _ _ (h.alloc _) (by omega) (by omega) (by omega)).mono ?_
  rintro e w1 ⟨k, hk, rfl, hR, hW⟩
  have c0 : w1.cell? ⟨w.heap.size, 0, none⟩ = some (.int .i64 0) := by rw [hW.cell (by simp) (by omega)]; simp [go_sem]
  have c1 : w1.cell? ⟨w.heap.size, 1, none⟩ = some (.int .i64 0) := by rw [hW.cell (by simp) (by omega)]; simp [go_sem]
  have hf : ∀ i, w1.frozen? ⟨w.heap.size, i, none⟩ = false := fun i => by rw [hW.frozen (by simp) (by omega)]; simp [go_sem]
  have hz : w.heap.size < w1.heap.size := by have := hW.size; simp at this; omega
  have hW0 := (Wr.alloc q w (.cells #[.int .i64 0, .int .i64 0] 55)).trans hW
  clear hW
  go_wp2_with fail
  refine (pick_any B q (m + 1) _ _ hR (by omega) (by omega) (by omega)).mono ?_
  rintro e w2 ⟨j, hj, rfl, hR2, hW2⟩
  have d0 : w2.cell? ⟨w.heap.size, 0, none⟩ = some (.int .i64 0) := by rw [hW2.cell hz (by omega)]; exact c0
  have d1 : w2.cell? ⟨w.heap.size, 1, none⟩ = some (.int .i64 0) := by rw [hW2.cell hz (by omega)]; exact c1
  have hf2 : ∀ i, w2.frozen? ⟨w.heap.size, i, none⟩ = false := fun i => by rw [hW2.frozen hz (by omega)]; exact hf i
  have hW3 := hid (hW0.trans hW2)
  have hR3 := hid hR2
  have hq2 := hid hq
  clear c0 c1 hf hR hW0 hW2 hR2 h
  go_wp2
  refine bodyPost_ret (by simp [results, Tryd.results123, go_sem, *]; try rfl) rfl ?_
  exact ⟨_, _, by omega, rfl, (hR3.out.setOther hB (by omega) _ _).setOther hB (by omega) _ _, (hW3.out.setNew (Nat.le_refl _) _ _).setNew (Nat.le_refl _) _ _⟩
/-- What a drawing function of one interval leaves. -/
def OutI (w : World) (e : Ending) (w' : World) : Prop := ∃ f t : Int, I64 f ∧ I64 t ∧ e = .returned (.agg #[.int .i64 f, .int .i64 t]) ∧ Below w.heap.size w w'
end Go.Proofs.YtnogdjmciekieaaDoor.C
