/- The draw of two intervals. -/
import Derived.Test.YtnhpjjbblegnaabDoorDrawTwo
import Derived.Test.YtnhpjjbblegnaabDoorTab
import Derived.Deep.RegionWith
import Derived.OwnWalk
namespace Go.Proofs.YtnhpjjbblegnaabDoor.C
open Go.RowKit
set_option linter.unusedVariables false
set_option linter.unusedSimpArgs false
def DrewP (B q m : Nat) (w : World) (e : Ending) (w' : World) : Prop :=
  ∃ f t g u : Int, e = .returned (.tuple #[.agg #[.int .i64 f, .int .i64 t], .agg #[.int .i64 g, .int .i64 u]]) ∧ Rd B w' q m ∧ Wr q w w'
theorem Wr.ofDrew {q : Nat} {w w' : World} (h : Wr q w.drew w') : Wr q w w' := ⟨h.os, h.tape, h.output, h.size, h.block⟩
theorem Rd.toDrew {B : Nat} {w : World} {q m : Nat} (h : Rd B w q m) : Rd B w.drew q m := h.below (below_drew' (Below.refl w.heap.size w)) h.lt
set_option maxHeartbeats 4000000 in
set_option maxRecDepth 100000 in
theorem l2Two_any (B q m : Nat) (w : World) (h : Rd B w q m) (hm : m ≤ 100000000) (hB : B ≤ w.heap.size) :
    Calls Tryd.prog 95 #[.pointer (some ⟨q, 0, none⟩)] w (DrewP B q (m + 8) w) := by
  have hq := h.lt
  have HS := AllLt.start w; go_enter Tryd.func95, Tryd.ntmps95
  go_wp2_with fail
  refine (l2Open_any B q m _ ((h.alloc _).alloc _) (by omega) (by simp; omega)).mono ?_
  rintro e w1 ⟨f, t, hg, rfl, hR, hW⟩
  have hz : w.heap.size + 1 < w1.heap.size := by have := hW.size; simp at this; omega
  have c0 : w1.cell? ⟨w.heap.size, 0, none⟩ = some (.int .i64 0) := by rw [hW.cell (by simp; omega) (by omega)]; simp [go_sem]
  have c1 : w1.cell? ⟨w.heap.size, 1, none⟩ = some (.int .i64 0) := by rw [hW.cell (by simp; omega) (by omega)]; simp [go_sem]
  have c2 : w1.cell? ⟨w.heap.size + 1, 0, none⟩ = some (.int .i64 0) := by rw [hW.cell (by simp) (by omega)]; simp [go_sem]
  have c3 : w1.cell? ⟨w.heap.size + 1, 1, none⟩ = some (.int .i64 0) := by rw [hW.cell (by simp) (by omega)]; simp [go_sem]
  have f0 : ∀ i, w1.frozen? ⟨w.heap.size, i, none⟩ = false := fun i => by rw [hW.frozen (by simp; omega) (by omega)]; simp [go_sem]
  have f1 : ∀ i, w1.frozen? ⟨w.heap.size + 1, i, none⟩ = false := fun i => by rw [hW.frozen (by simp) (by omega)]; simp [go_sem]
  have HW0 := hid (((Wr.alloc q w _).trans (Wr.alloc q _ _)).trans hW)
  clear hW h
  have HR := hid hR
  have hq1 := hR.lt
  clear hR
  have n0 : ¬ w.heap.size = w1.heap.size := by omega
  have n1 : ¬ w1.heap.size = w.heap.size := by omega
  have n2 : ¬ w.heap.size + 1 = w1.heap.size := by omega
  have n3 : ¬ w1.heap.size = w.heap.size + 1 := by omega
  have n4 : w.heap.size < w1.heap.size := by omega
  go_wp2_with fail
  go_region_with (first | (go_at_call 150; go_loud (refine (l2Open_any B q (m + 4) _ (HR.out.alloc _).toDrew (by omega) (by simp; omega)).mono ?_); rintro e w2 ⟨g, u, hg2, rfl, hR2, hW2⟩; have HWa : Wr q w1 w2 := (Wr.alloc q w1 _).trans (Wr.ofDrew hW2); have HR2 := hid hR2; have HW2 := hid (HW0.out.trans HWa); have hz2 : w1.heap.size < w2.heap.size := (by have := hW2.size; simp at this; omega); have d0 := (HWa.cell (off := 0) n4 (show w.heap.size ≠ q by omega)).trans c0; have d1 := (HWa.cell (off := 1) n4 (show w.heap.size ≠ q by omega)).trans c1; have d2 := (HWa.cell (off := 0) hz (show w.heap.size + 1 ≠ q by omega)).trans c2; have d3 := (HWa.cell (off := 1) hz (show w.heap.size + 1 ≠ q by omega)).trans c3; have d4 : w2.cell? ⟨w1.heap.size, 0, none⟩ = some (.int .i64 f) := (by rw [hW2.cell (by simp) (by omega)]; simp [go_sem]); have d5 : w2.cell? ⟨w1.heap.size, 1, none⟩ = some (.int .i64 t) := (by rw [hW2.cell (by simp) (by omega)]; simp [go_sem]); have e0 : ∀ i, w2.frozen? ⟨w.heap.size, i, none⟩ = false := (fun i => (HWa.frozen n4 (show w.heap.size ≠ q by omega)).trans (f0 i)); have e1 : ∀ i, w2.frozen? ⟨w.heap.size + 1, i, none⟩ = false := (fun i => (HWa.frozen hz (show w.heap.size + 1 ≠ q by omega)).trans (f1 i)); clear hW2 hR2 HWa hg2) | fail)
  all_goals
    go_wp2
    refine bodyPost_ret (by simp [results, Tryd.results95, go_sem, *]; try rfl) rfl ?_
    exact ⟨_, _, _, _, rfl, by (repeat' (first | exact HR2.out | refine Rd.setOther ?_ ?_ ?_ _ _ | omega)), by (repeat' (first | exact HW2.out | refine Wr.setNew ?_ ?_ _ _ | omega))⟩
end Go.Proofs.YtnhpjjbblegnaabDoor.C
