/- The law of relations with a name. -/
import Derived.Test.YtnhpjjbblegnaabDoorDrawRel
import Derived.Test.YtnhpjjbblegnaabDoorDrawPair
import Derived.Test.YtnhpjjbblegnaabDoorNam
import Derived.Test.YtnhpjjbblegnaabDoorRelX
namespace Go.Proofs.YtnhpjjbblegnaabDoor.C
open Go.RowKit
set_option linter.unusedVariables false
set_option linter.unusedSimpArgs false
theorem ne_one (n : Nat) : ¬ n + 1 = n := by omega
theorem ne_one' (n : Nat) : ¬ n = n + 1 := by omega
def OutP (w : World) (e : Ending) (w' : World) : Prop := ∃ f t g u : Int, e = .returned (.tuple #[.agg #[.int .i64 f, .int .i64 t], .agg #[.int .i64 g, .int .i64 u]]) ∧ Below w.heap.size w w'
set_option maxHeartbeats 1000000 in
theorem DrawBasicOf_any (a : Option Addr) (len cap : Nat) (zs : List Int) (w : World) (h : IsRow .u8 w a len cap zs) :
    Calls Tryd.prog 36 #[.slice a len cap] w (OutP w) := by
  have HS := AllLt.start w; go_enter Tryd.func36, Tryd.ntmps36
  go_wp2_with fail
  refine (l14Open_any _ _ _ _ _ ((h.below ((Below.refl w.heap.size w).alloc (Nat.le_refl _) _)).below ((Below.refl _ _).alloc (Nat.le_refl _) _))).mono ?_
  rintro e w1 ⟨rfl, hR, hb⟩
  have c0 : ∀ i, i < 2 → w1.cell? ⟨w.heap.size, i, none⟩ = some (.int .i64 0) := fun i hi => by
    rw [hb.cell (p := ⟨w.heap.size, i, none⟩) (by simp; omega)]
    obtain rfl | rfl : i = 0 ∨ i = 1 := by omega
    all_goals simp [go_sem]
  have c1 : ∀ i, i < 2 → w1.cell? ⟨w.heap.size + 1, i, none⟩ = some (.int .i64 0) := fun i hi => by
    rw [hb.cell (p := ⟨w.heap.size + 1, i, none⟩) (by simp)]
    obtain rfl | rfl : i = 0 ∨ i = 1 := by omega
    all_goals simp [go_sem]
  have f0 : ∀ i, w1.frozen? ⟨w.heap.size, i, none⟩ = false := fun i => by rw [hb.frozen (p := ⟨w.heap.size, i, none⟩) (by simp; omega)]; simp [go_sem]
  have f1 : ∀ i, w1.frozen? ⟨w.heap.size + 1, i, none⟩ = false := fun i => by rw [hb.frozen (p := ⟨w.heap.size + 1, i, none⟩) (by simp)]; simp [go_sem]
  have hz : w.heap.size + 1 < w1.heap.size := by have := hb.size; simp at this; omega
  have hR' : Rd (w.heap.size + 2) w1 (w.heap.size + 2) 0 := by simpa using hR
  have hb1 : Below w.heap.size w w1 := ((((Below.refl w.heap.size w).alloc (Nat.le_refl _) _).alloc (by simp) _).trans (hb.mono (by simp; omega)))
  have hq := hR'.lt
  clear hR hb h
  go_wp2_with fail
  refine (l2Two_any (w.heap.size + 2) (w.heap.size + 2) 0 w1 hR' (by omega) (by omega)).mono ?_
  rintro e w2 ⟨f, t, g, u, rfl, hR2, hW⟩
  have d0 : w2.cell? ⟨w.heap.size, 0, none⟩ = some (.int .i64 0) := by rw [hW.cell (by omega) (by omega)]; exact c0 0 (by omega)
  have d1 : w2.cell? ⟨w.heap.size, 1, none⟩ = some (.int .i64 0) := by rw [hW.cell (by omega) (by omega)]; exact c0 1 (by omega)
  have d2 : w2.cell? ⟨w.heap.size + 1, 0, none⟩ = some (.int .i64 0) := by rw [hW.cell (by omega) (by omega)]; exact c1 0 (by omega)
  have d3 : w2.cell? ⟨w.heap.size + 1, 1, none⟩ = some (.int .i64 0) := by rw [hW.cell (by omega) (by omega)]; exact c1 1 (by omega)
  have g0 : ∀ i, w2.frozen? ⟨w.heap.size, i, none⟩ = false := fun i => by rw [hW.frozen (by omega) (by omega)]; exact f0 i
  have g1 : ∀ i, w2.frozen? ⟨w.heap.size + 1, i, none⟩ = false := fun i => by rw [hW.frozen (by omega) (by omega)]; exact f1 i
  have hb2 := hid (hb1.trans (hW.below (by omega) hb1.size))
  have n1 := ne_one w.heap.size
  have n2 := ne_one' w.heap.size
  clear c0 c1 f0 f1 hR' hR2 hW hb1 hz hq
  go_wp2
  refine bodyPost_ret (by simp [results, Tryd.results36, go_sem, *]; try rfl) rfl ?_
  have hb3 := hb2.out
  exact ⟨f, t, g, u, rfl, by (repeat' (first | (with_reducible exact Below.refl _ _) | (with_reducible refine Below.setCell ?_ ?_ _) | (with_reducible refine below_drewN' ?_ _) | (with_reducible refine below_drew' ?_) | (with_reducible refine Below.alloc ?_ ?_ _) | (with_reducible assumption) | go_size))⟩
set_option maxHeartbeats 4000000 in
theorem nm_rel {a b c d : Int} (h1 : iv a b = true) (h2 : iv c d = true) :
    rhB 8191 a b c d = true ∧ rhB 0 a b c d = false ∧ rhB 6147 a b c d = !mtB a b c d ∧ rhB 2044 a b c d = mtB a b c d ∧ rhB 120 a b c d = (decide (c ≤ a) && decide (b ≤ d)) ∧ rhB 584 a b c d = decide (a = c) ∧ rhB 224 a b c d = decide (b = d) ∧ rhB 391 a b c d = decide (a < c) := by
  obtain ⟨k, hk, e1, e2, hr⟩ := zn_bat h1 h2
  have hO : bo a b c d = true := by simp [bo, h1, h2]
  have hB := batI_hit hr
  have R : ∀ n : Nat, n < 8192 → rhB (n : Int) a b c d = n.testBit k := fun n hn => rhB_on hn hO hB
  have r0 : rhB 8191 a b c d = (8191 : Nat).testBit k := R 8191 (by omega)
  have r1 : rhB 0 a b c d = (0 : Nat).testBit k := R 0 (by omega)
  have r2 : rhB 6147 a b c d = (6147 : Nat).testBit k := R 6147 (by omega)
  have r3 : rhB 2044 a b c d = (2044 : Nat).testBit k := R 2044 (by omega)
  have r4 : rhB 120 a b c d = (120 : Nat).testBit k := R 120 (by omega)
  have r5 : rhB 584 a b c d = (584 : Nat).testBit k := R 584 (by omega)
  have r6 : rhB 224 a b c d = (224 : Nat).testBit k := R 224 (by omega)
  have r7 : rhB 391 a b c d = (391 : Nat).testBit k := R 391 (by omega)
  rw [iv_iff] at h1 h2
  have hM : mtB a b c d = decide (max a c < min b d) := by
    unfold mtB
    exact decide_eq_decide.2 ⟨fun h => h.2, fun h => ⟨⟨h1, h2⟩, h⟩⟩
  clear R hr hB hO
  rw [r0, r1, r2, r3, r4, r5, r6, r7, hM]
  clear r0 r1 r2 r3 r4 r5 r6 r7 hM
  rcases nat13 hk with rfl | rfl | rfl | rfl | rfl | rfl | rfl | rfl | rfl | rfl | rfl | rfl | rfl
  · simp only [zf, zt] at e1 e2
    clear hk
    rw [show (6147 : Nat).testBit 0 = true by decide]
    rw [show (2044 : Nat).testBit 0 = false by decide]
    rw [show (120 : Nat).testBit 0 = false by decide]
    rw [show (584 : Nat).testBit 0 = false by decide]
    rw [show (224 : Nat).testBit 0 = false by decide]
    rw [show (391 : Nat).testBit 0 = true by decide]
    rcases zn_cases a c d with ⟨q1, q⟩ | ⟨q1, q⟩ | ⟨q1, q2, q⟩ | ⟨q1, q2, q⟩ | ⟨q1, q2, q⟩ <;> rcases zn_cases b c d with ⟨p1, p⟩ | ⟨p1, p⟩ | ⟨p1, p2, p⟩ | ⟨p1, p2, p⟩ | ⟨p1, p2, p⟩ <;> first | (exfalso; omega) | (exact ⟨by decide, by decide, by (by_cases x : max a c < min b d <;> simp [x] <;> omega), by (by_cases x : max a c < min b d <;> simp [x] <;> omega), by (by_cases x : c ≤ a <;> by_cases y : b ≤ d <;> simp [x, y] <;> omega), by (by_cases x : a = c <;> simp [x] <;> omega), by (by_cases x : b = d <;> simp [x] <;> omega), by (by_cases x : a < c <;> simp [x] <;> omega)⟩)
  · simp only [zf, zt] at e1 e2
    clear hk
    rw [show (6147 : Nat).testBit 1 = true by decide]
    rw [show (2044 : Nat).testBit 1 = false by decide]
    rw [show (120 : Nat).testBit 1 = false by decide]
    rw [show (584 : Nat).testBit 1 = false by decide]
    rw [show (224 : Nat).testBit 1 = false by decide]
    rw [show (391 : Nat).testBit 1 = true by decide]
    rcases zn_cases a c d with ⟨q1, q⟩ | ⟨q1, q⟩ | ⟨q1, q2, q⟩ | ⟨q1, q2, q⟩ | ⟨q1, q2, q⟩ <;> rcases zn_cases b c d with ⟨p1, p⟩ | ⟨p1, p⟩ | ⟨p1, p2, p⟩ | ⟨p1, p2, p⟩ | ⟨p1, p2, p⟩ <;> first | (exfalso; omega) | (exact ⟨by decide, by decide, by (by_cases x : max a c < min b d <;> simp [x] <;> omega), by (by_cases x : max a c < min b d <;> simp [x] <;> omega), by (by_cases x : c ≤ a <;> by_cases y : b ≤ d <;> simp [x, y] <;> omega), by (by_cases x : a = c <;> simp [x] <;> omega), by (by_cases x : b = d <;> simp [x] <;> omega), by (by_cases x : a < c <;> simp [x] <;> omega)⟩)
  · simp only [zf, zt] at e1 e2
    clear hk
    rw [show (6147 : Nat).testBit 2 = false by decide]
    rw [show (2044 : Nat).testBit 2 = true by decide]
    rw [show (120 : Nat).testBit 2 = false by decide]
    rw [show (584 : Nat).testBit 2 = false by decide]
    rw [show (224 : Nat).testBit 2 = false by decide]
    rw [show (391 : Nat).testBit 2 = true by decide]
    rcases zn_cases a c d with ⟨q1, q⟩ | ⟨q1, q⟩ | ⟨q1, q2, q⟩ | ⟨q1, q2, q⟩ | ⟨q1, q2, q⟩ <;> rcases zn_cases b c d with ⟨p1, p⟩ | ⟨p1, p⟩ | ⟨p1, p2, p⟩ | ⟨p1, p2, p⟩ | ⟨p1, p2, p⟩ <;> first | (exfalso; omega) | (exact ⟨by decide, by decide, by (by_cases x : max a c < min b d <;> simp [x] <;> omega), by (by_cases x : max a c < min b d <;> simp [x] <;> omega), by (by_cases x : c ≤ a <;> by_cases y : b ≤ d <;> simp [x, y] <;> omega), by (by_cases x : a = c <;> simp [x] <;> omega), by (by_cases x : b = d <;> simp [x] <;> omega), by (by_cases x : a < c <;> simp [x] <;> omega)⟩)
  · simp only [zf, zt] at e1 e2
    clear hk
    rw [show (6147 : Nat).testBit 3 = false by decide]
    rw [show (2044 : Nat).testBit 3 = true by decide]
    rw [show (120 : Nat).testBit 3 = true by decide]
    rw [show (584 : Nat).testBit 3 = true by decide]
    rw [show (224 : Nat).testBit 3 = false by decide]
    rw [show (391 : Nat).testBit 3 = false by decide]
    rcases zn_cases a c d with ⟨q1, q⟩ | ⟨q1, q⟩ | ⟨q1, q2, q⟩ | ⟨q1, q2, q⟩ | ⟨q1, q2, q⟩ <;> rcases zn_cases b c d with ⟨p1, p⟩ | ⟨p1, p⟩ | ⟨p1, p2, p⟩ | ⟨p1, p2, p⟩ | ⟨p1, p2, p⟩ <;> first | (exfalso; omega) | (exact ⟨by decide, by decide, by (by_cases x : max a c < min b d <;> simp [x] <;> omega), by (by_cases x : max a c < min b d <;> simp [x] <;> omega), by (by_cases x : c ≤ a <;> by_cases y : b ≤ d <;> simp [x, y] <;> omega), by (by_cases x : a = c <;> simp [x] <;> omega), by (by_cases x : b = d <;> simp [x] <;> omega), by (by_cases x : a < c <;> simp [x] <;> omega)⟩)
  · simp only [zf, zt] at e1 e2
    clear hk
    rw [show (6147 : Nat).testBit 4 = false by decide]
    rw [show (2044 : Nat).testBit 4 = true by decide]
    rw [show (120 : Nat).testBit 4 = true by decide]
    rw [show (584 : Nat).testBit 4 = false by decide]
    rw [show (224 : Nat).testBit 4 = false by decide]
    rw [show (391 : Nat).testBit 4 = false by decide]
    rcases zn_cases a c d with ⟨q1, q⟩ | ⟨q1, q⟩ | ⟨q1, q2, q⟩ | ⟨q1, q2, q⟩ | ⟨q1, q2, q⟩ <;> rcases zn_cases b c d with ⟨p1, p⟩ | ⟨p1, p⟩ | ⟨p1, p2, p⟩ | ⟨p1, p2, p⟩ | ⟨p1, p2, p⟩ <;> first | (exfalso; omega) | (exact ⟨by decide, by decide, by (by_cases x : max a c < min b d <;> simp [x] <;> omega), by (by_cases x : max a c < min b d <;> simp [x] <;> omega), by (by_cases x : c ≤ a <;> by_cases y : b ≤ d <;> simp [x, y] <;> omega), by (by_cases x : a = c <;> simp [x] <;> omega), by (by_cases x : b = d <;> simp [x] <;> omega), by (by_cases x : a < c <;> simp [x] <;> omega)⟩)
  · simp only [zf, zt] at e1 e2
    clear hk
    rw [show (6147 : Nat).testBit 5 = false by decide]
    rw [show (2044 : Nat).testBit 5 = true by decide]
    rw [show (120 : Nat).testBit 5 = true by decide]
    rw [show (584 : Nat).testBit 5 = false by decide]
    rw [show (224 : Nat).testBit 5 = true by decide]
    rw [show (391 : Nat).testBit 5 = false by decide]
    rcases zn_cases a c d with ⟨q1, q⟩ | ⟨q1, q⟩ | ⟨q1, q2, q⟩ | ⟨q1, q2, q⟩ | ⟨q1, q2, q⟩ <;> rcases zn_cases b c d with ⟨p1, p⟩ | ⟨p1, p⟩ | ⟨p1, p2, p⟩ | ⟨p1, p2, p⟩ | ⟨p1, p2, p⟩ <;> first | (exfalso; omega) | (exact ⟨by decide, by decide, by (by_cases x : max a c < min b d <;> simp [x] <;> omega), by (by_cases x : max a c < min b d <;> simp [x] <;> omega), by (by_cases x : c ≤ a <;> by_cases y : b ≤ d <;> simp [x, y] <;> omega), by (by_cases x : a = c <;> simp [x] <;> omega), by (by_cases x : b = d <;> simp [x] <;> omega), by (by_cases x : a < c <;> simp [x] <;> omega)⟩)
  · simp only [zf, zt] at e1 e2
    clear hk
    rw [show (6147 : Nat).testBit 6 = false by decide]
    rw [show (2044 : Nat).testBit 6 = true by decide]
    rw [show (120 : Nat).testBit 6 = true by decide]
    rw [show (584 : Nat).testBit 6 = true by decide]
    rw [show (224 : Nat).testBit 6 = true by decide]
    rw [show (391 : Nat).testBit 6 = false by decide]
    rcases zn_cases a c d with ⟨q1, q⟩ | ⟨q1, q⟩ | ⟨q1, q2, q⟩ | ⟨q1, q2, q⟩ | ⟨q1, q2, q⟩ <;> rcases zn_cases b c d with ⟨p1, p⟩ | ⟨p1, p⟩ | ⟨p1, p2, p⟩ | ⟨p1, p2, p⟩ | ⟨p1, p2, p⟩ <;> first | (exfalso; omega) | (exact ⟨by decide, by decide, by (by_cases x : max a c < min b d <;> simp [x] <;> omega), by (by_cases x : max a c < min b d <;> simp [x] <;> omega), by (by_cases x : c ≤ a <;> by_cases y : b ≤ d <;> simp [x, y] <;> omega), by (by_cases x : a = c <;> simp [x] <;> omega), by (by_cases x : b = d <;> simp [x] <;> omega), by (by_cases x : a < c <;> simp [x] <;> omega)⟩)
  · simp only [zf, zt] at e1 e2
    clear hk
    rw [show (6147 : Nat).testBit 7 = false by decide]
    rw [show (2044 : Nat).testBit 7 = true by decide]
    rw [show (120 : Nat).testBit 7 = false by decide]
    rw [show (584 : Nat).testBit 7 = false by decide]
    rw [show (224 : Nat).testBit 7 = true by decide]
    rw [show (391 : Nat).testBit 7 = true by decide]
    rcases zn_cases a c d with ⟨q1, q⟩ | ⟨q1, q⟩ | ⟨q1, q2, q⟩ | ⟨q1, q2, q⟩ | ⟨q1, q2, q⟩ <;> rcases zn_cases b c d with ⟨p1, p⟩ | ⟨p1, p⟩ | ⟨p1, p2, p⟩ | ⟨p1, p2, p⟩ | ⟨p1, p2, p⟩ <;> first | (exfalso; omega) | (exact ⟨by decide, by decide, by (by_cases x : max a c < min b d <;> simp [x] <;> omega), by (by_cases x : max a c < min b d <;> simp [x] <;> omega), by (by_cases x : c ≤ a <;> by_cases y : b ≤ d <;> simp [x, y] <;> omega), by (by_cases x : a = c <;> simp [x] <;> omega), by (by_cases x : b = d <;> simp [x] <;> omega), by (by_cases x : a < c <;> simp [x] <;> omega)⟩)
  · simp only [zf, zt] at e1 e2
    clear hk
    rw [show (6147 : Nat).testBit 8 = false by decide]
    rw [show (2044 : Nat).testBit 8 = true by decide]
    rw [show (120 : Nat).testBit 8 = false by decide]
    rw [show (584 : Nat).testBit 8 = false by decide]
    rw [show (224 : Nat).testBit 8 = false by decide]
    rw [show (391 : Nat).testBit 8 = true by decide]
    rcases zn_cases a c d with ⟨q1, q⟩ | ⟨q1, q⟩ | ⟨q1, q2, q⟩ | ⟨q1, q2, q⟩ | ⟨q1, q2, q⟩ <;> rcases zn_cases b c d with ⟨p1, p⟩ | ⟨p1, p⟩ | ⟨p1, p2, p⟩ | ⟨p1, p2, p⟩ | ⟨p1, p2, p⟩ <;> first | (exfalso; omega) | (exact ⟨by decide, by decide, by (by_cases x : max a c < min b d <;> simp [x] <;> omega), by (by_cases x : max a c < min b d <;> simp [x] <;> omega), by (by_cases x : c ≤ a <;> by_cases y : b ≤ d <;> simp [x, y] <;> omega), by (by_cases x : a = c <;> simp [x] <;> omega), by (by_cases x : b = d <;> simp [x] <;> omega), by (by_cases x : a < c <;> simp [x] <;> omega)⟩)
  · simp only [zf, zt] at e1 e2
    clear hk
    rw [show (6147 : Nat).testBit 9 = false by decide]
    rw [show (2044 : Nat).testBit 9 = true by decide]
    rw [show (120 : Nat).testBit 9 = false by decide]
    rw [show (584 : Nat).testBit 9 = true by decide]
    rw [show (224 : Nat).testBit 9 = false by decide]
    rw [show (391 : Nat).testBit 9 = false by decide]
    rcases zn_cases a c d with ⟨q1, q⟩ | ⟨q1, q⟩ | ⟨q1, q2, q⟩ | ⟨q1, q2, q⟩ | ⟨q1, q2, q⟩ <;> rcases zn_cases b c d with ⟨p1, p⟩ | ⟨p1, p⟩ | ⟨p1, p2, p⟩ | ⟨p1, p2, p⟩ | ⟨p1, p2, p⟩ <;> first | (exfalso; omega) | (exact ⟨by decide, by decide, by (by_cases x : max a c < min b d <;> simp [x] <;> omega), by (by_cases x : max a c < min b d <;> simp [x] <;> omega), by (by_cases x : c ≤ a <;> by_cases y : b ≤ d <;> simp [x, y] <;> omega), by (by_cases x : a = c <;> simp [x] <;> omega), by (by_cases x : b = d <;> simp [x] <;> omega), by (by_cases x : a < c <;> simp [x] <;> omega)⟩)
  · simp only [zf, zt] at e1 e2
    clear hk
    rw [show (6147 : Nat).testBit 10 = false by decide]
    rw [show (2044 : Nat).testBit 10 = true by decide]
    rw [show (120 : Nat).testBit 10 = false by decide]
    rw [show (584 : Nat).testBit 10 = false by decide]
    rw [show (224 : Nat).testBit 10 = false by decide]
    rw [show (391 : Nat).testBit 10 = false by decide]
    rcases zn_cases a c d with ⟨q1, q⟩ | ⟨q1, q⟩ | ⟨q1, q2, q⟩ | ⟨q1, q2, q⟩ | ⟨q1, q2, q⟩ <;> rcases zn_cases b c d with ⟨p1, p⟩ | ⟨p1, p⟩ | ⟨p1, p2, p⟩ | ⟨p1, p2, p⟩ | ⟨p1, p2, p⟩ <;> first | (exfalso; omega) | (exact ⟨by decide, by decide, by (by_cases x : max a c < min b d <;> simp [x] <;> omega), by (by_cases x : max a c < min b d <;> simp [x] <;> omega), by (by_cases x : c ≤ a <;> by_cases y : b ≤ d <;> simp [x, y] <;> omega), by (by_cases x : a = c <;> simp [x] <;> omega), by (by_cases x : b = d <;> simp [x] <;> omega), by (by_cases x : a < c <;> simp [x] <;> omega)⟩)
  · simp only [zf, zt] at e1 e2
    clear hk
    rw [show (6147 : Nat).testBit 11 = true by decide]
    rw [show (2044 : Nat).testBit 11 = false by decide]
    rw [show (120 : Nat).testBit 11 = false by decide]
    rw [show (584 : Nat).testBit 11 = false by decide]
    rw [show (224 : Nat).testBit 11 = false by decide]
    rw [show (391 : Nat).testBit 11 = false by decide]
    rcases zn_cases a c d with ⟨q1, q⟩ | ⟨q1, q⟩ | ⟨q1, q2, q⟩ | ⟨q1, q2, q⟩ | ⟨q1, q2, q⟩ <;> rcases zn_cases b c d with ⟨p1, p⟩ | ⟨p1, p⟩ | ⟨p1, p2, p⟩ | ⟨p1, p2, p⟩ | ⟨p1, p2, p⟩ <;> first | (exfalso; omega) | (exact ⟨by decide, by decide, by (by_cases x : max a c < min b d <;> simp [x] <;> omega), by (by_cases x : max a c < min b d <;> simp [x] <;> omega), by (by_cases x : c ≤ a <;> by_cases y : b ≤ d <;> simp [x, y] <;> omega), by (by_cases x : a = c <;> simp [x] <;> omega), by (by_cases x : b = d <;> simp [x] <;> omega), by (by_cases x : a < c <;> simp [x] <;> omega)⟩)
  · simp only [zf, zt] at e1 e2
    clear hk
    rw [show (6147 : Nat).testBit 12 = true by decide]
    rw [show (2044 : Nat).testBit 12 = false by decide]
    rw [show (120 : Nat).testBit 12 = false by decide]
    rw [show (584 : Nat).testBit 12 = false by decide]
    rw [show (224 : Nat).testBit 12 = false by decide]
    rw [show (391 : Nat).testBit 12 = false by decide]
    rcases zn_cases a c d with ⟨q1, q⟩ | ⟨q1, q⟩ | ⟨q1, q2, q⟩ | ⟨q1, q2, q⟩ | ⟨q1, q2, q⟩ <;> rcases zn_cases b c d with ⟨p1, p⟩ | ⟨p1, p⟩ | ⟨p1, p2, p⟩ | ⟨p1, p2, p⟩ | ⟨p1, p2, p⟩ <;> first | (exfalso; omega) | (exact ⟨by decide, by decide, by (by_cases x : max a c < min b d <;> simp [x] <;> omega), by (by_cases x : max a c < min b d <;> simp [x] <;> omega), by (by_cases x : c ≤ a <;> by_cases y : b ≤ d <;> simp [x, y] <;> omega), by (by_cases x : a = c <;> simp [x] <;> omega), by (by_cases x : b = d <;> simp [x] <;> omega), by (by_cases x : a < c <;> simp [x] <;> omega)⟩)
end Go.Proofs.YtnhpjjbblegnaabDoor.C
