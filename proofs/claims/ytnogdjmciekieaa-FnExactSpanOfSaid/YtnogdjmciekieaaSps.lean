/- The interval of all intervals of a plan: the model. -/
import Derived.Test.YtnogdjmciekieaaSpn
namespace Go.Proofs.Ytnogdjmciekieaa.C
open Go.RowKit
set_option linter.unusedVariables false
set_option linter.unusedSimpArgs false
/-- the variable that grows, and the result's -/
structure Spw (w wr : World) (g : Nat) (x y : Int) : Prop where
  b : Below w.heap.size w wr
  ne : w.heap.size < g
  lt : g < wr.heap.size
  c0 : wr.cell? ⟨g, 0, none⟩ = some (.int .i64 x)
  c1 : wr.cell? ⟨g, 1, none⟩ = some (.int .i64 y)
  f0 : wr.frozen? ⟨g, 0, none⟩ = false
  f1 : wr.frozen? ⟨g, 1, none⟩ = false
  d0 : wr.cell? ⟨w.heap.size, 0, none⟩ = some (.int .i64 0)
  d1 : wr.cell? ⟨w.heap.size, 1, none⟩ = some (.int .i64 0)
  e0 : wr.frozen? ⟨w.heap.size, 0, none⟩ = false
  e1 : wr.frozen? ⟨w.heap.size, 1, none⟩ = false
theorem Spw.put {w wr : World} {g : Nat} {x y : Int} (h : Spw w wr g x y) (x' y' : Int) : Spw w (((wr.setCell ⟨g, 0, none⟩ (.int .i64 x')).setCell ⟨g, 1, none⟩ (.int .i64 y')).drew) g x' y' := by
  have hne : ¬ g = w.heap.size := by have := h.ne; omega
  have hne' : ¬ w.heap.size = g := by have := h.ne; omega
  refine ⟨((h.b.setCell (p := ⟨g, 0, none⟩) (Nat.le_of_lt h.ne) _).setCell (p := ⟨g, 1, none⟩) (Nat.le_of_lt h.ne) _).drew, h.ne, by simpa using h.lt, ?_, ?_, ?_, ?_, ?_, ?_, ?_, ?_⟩
  all_goals simp [go_sem, hne, hne', h.c0, h.c1, h.f0, h.f1, h.d0, h.d1, h.e0, h.e1]
theorem sSpan_off (b cap n : Nat) (F T : Nat → Int) (w : World) (hn : n ≤ 4611686018427387904) (h1 : n ≤ cap) (hR : Rv w b n F T) (h : plV n F T = false) :
    Calls Try.prog 25 #[.slice (some ⟨b, 0, none⟩) n cap] w fun e w' => e = .returned (.tuple #[.agg #[.int .i64 0, .int .i64 0], .bool false]) ∧ Below w.heap.size w w' := by
  have HB1 := hid ((Below.refl w.heap.size w).alloc (Nat.le_refl _) (.cells #[.int .i64 0, .int .i64 0] 38))
  have HI := hid (l5All_any b cap n F T (w.alloc (.cells #[.int .i64 0, .int .i64 0] 38)) hn h1 (hR.below HB1.out))
  rw [h] at HI
  clear hR h
  have hs1 : w.heap.size < (w.alloc (.cells #[.int .i64 0, .int .i64 0] 38)).heap.size := by simp
  have HRR := hid (heap_alloc_new w (.cells #[.int .i64 0, .int .i64 0] 38))
  have HS := AllLt.start w; go_enter Try.func25, Try.ntmps25
  go_wp2_with fail
  (with_reducible refine HI.out.mono ?_)
  clear HI
  generalize hw0 : w.alloc (.cells #[.int .i64 0, .int .i64 0] 38) = w0 at *
  rintro e w2 ⟨rfl, hb⟩
  have HB := hid (HB1.out.trans (hb.mono HB1.out.size))
  have hr := (hb.block _ hs1).trans HRR.out
  have d0 : w2.cell? ⟨w.heap.size, 0, none⟩ = some (.int .i64 0) := by rw [cell_of_row _ _ _ _ _ _ hr]; rfl
  have d1 : w2.cell? ⟨w.heap.size, 1, none⟩ = some (.int .i64 0) := by rw [cell_of_row _ _ _ _ _ _ hr]; rfl
  have e0 : w2.frozen? ⟨w.heap.size, 0, none⟩ = false := frozen_of_row _ _ 0 _ _ hr
  have e1 : w2.frozen? ⟨w.heap.size, 1, none⟩ = false := frozen_of_row _ _ 1 _ _ hr
  clear hb hr hw0 hs1 HB1 HRR HS
  go_wp2_with fail
  refine bodyPost_ret (by simp [results, Try.results25, go_sem, *]; try rfl) rfl ?_
  exact ⟨rfl, (HB.out.setCell (p := ⟨w.heap.size, 0, none⟩) (Nat.le_refl _) _).setCell (p := ⟨w.heap.size, 1, none⟩) (Nat.le_refl _) _⟩
set_option maxHeartbeats 1000000 in
set_option maxRecDepth 100000 in
theorem sSpan_on (b cap n : Nat) (F T : Nat → Int) (w : World) (h1 : n + 1 ≤ cap) (hR : Rv w b (n + 1) F T) (h : plV (n + 1) F T = true) :
    Calls Try.prog 25 #[.slice (some ⟨b, 0, none⟩) (n + 1) cap] w fun e w' => e = .returned (.tuple #[.agg #[.int .i64 (loF F n), .int .i64 (hiF T n)], .bool true]) ∧ Below w.heap.size w w' := by
  have h6 := (plV_iff.1 h).1.2
  have HB1 := hid ((Below.refl w.heap.size w).alloc (Nat.le_refl _) (.cells #[.int .i64 0, .int .i64 0] 38))
  have HR := hid hR
  have HI := hid (l5All_any b cap (n + 1) F T (w.alloc (.cells #[.int .i64 0, .int .i64 0] 38)) (by omega) h1 (hR.below HB1.out))
  rw [h] at HI
  clear hR h
  have hs1 : w.heap.size < (w.alloc (.cells #[.int .i64 0, .int .i64 0] 38)).heap.size := by simp
  have HRR := hid (heap_alloc_new w (.cells #[.int .i64 0, .int .i64 0] 38))
  have HS := AllLt.start w; go_enter Try.func25, Try.ntmps25
  go_wp2_with fail
  (with_reducible refine HI.out.mono ?_)
  clear HI
  generalize hw0 : w.alloc (.cells #[.int .i64 0, .int .i64 0] 38) = w0 at *
  rintro e w2 ⟨rfl, hb⟩
  have HB := hid (HB1.out.trans (hb.mono HB1.out.size))
  have hr := (hb.block _ hs1).trans HRR.out
  have hlt := Nat.lt_of_lt_of_le hs1 hb.size
  obtain ⟨c0, c1⟩ := (HR.out.below HB.out).2 0 (by omega)
  simp only [Nat.zero_mul, Nat.zero_add] at c0 c1
  have HW := hid (show Spw w (w2.alloc (.cells #[.int .i64 (F 0), .int .i64 (T 0)] 38)) w2.heap.size (F 0) (T 0) from by
    have hnew := heap_alloc_new w2 (.cells #[.int .i64 (F 0), .int .i64 (T 0)] 38)
    have hold := (Below.heap_alloc w2 (.cells #[.int .i64 (F 0), .int .i64 (T 0)] 38) _ hlt).trans hr
    refine ⟨HB.out.alloc (Nat.le_of_lt hlt) _, hlt, by simp, ?_, ?_, frozen_of_row _ _ 0 _ _ hnew, frozen_of_row _ _ 1 _ _ hnew, ?_, ?_, frozen_of_row _ _ 0 _ _ hold, frozen_of_row _ _ 1 _ _ hold⟩
    · rw [cell_of_row _ _ _ _ _ _ hnew]; rfl
    · rw [cell_of_row _ _ _ _ _ _ hnew]; rfl
    · rw [cell_of_row _ _ _ _ _ _ hold]; rfl
    · rw [cell_of_row _ _ _ _ _ _ hold]; rfl)
  clear hb hr hw0 hs1 HB1 HRR HS
  go_wp2_with fail
  generalize w2.alloc (.cells #[.int .i64 (F 0), .int .i64 (T 0)] 38) = w3 at *
  generalize w2.heap.size = g at *
  go_loopw [5] (fun q wr => ∃ k : Nat, k ≤ n ∧ q = .int .i64 ((k + 1 : Nat) : Int) ∧ Hid (Spw w wr g (loF F k) (hiF T k))) (fun q _ => n + 1 - (intOf q).toNat)
  case atStart => exact ⟨0, by omega, by go_num, HW⟩
  case round =>
    obtain ⟨k, hk, rfl, HP⟩ := hrel
    clear HW HB c0 c1
    obtain ⟨wi, rfl⟩ : ∃ wi : World, wi = wr := ⟨_, rfl⟩
    by_cases hkn : k < n
    · have hdi : decide (((k + 1 : Nat) : Int) < ((n + 1 : Nat) : Int)) = true := by simp; omega
      have hdj : decide (k + 1 < n + 1) = true := by simp; omega
      obtain ⟨c0, c1⟩ := (HR.out.below HP.out.b).2 (k + 1) (by omega)
      have x0 := HP.out.c0
      have x1 := HP.out.c1
      have y0 := HP.out.f0
      have y1 := HP.out.f1
      have HQ := hid (HP.out.put (loF F (k + 1)) (hiF T (k + 1)))
      have HL := hid (show loF F (k + 1) = min (loF F k) (F (k + 1)) from rfl)
      have HH := hid (show hiF T (k + 1) = max (hiF T k) (T (k + 1)) from rfl)
      clear HP
      generalize loF F k = lo at x0 HL
      generalize hiF T k = hi at x1 HH
      generalize F (k + 1) = y at c0 HL
      generalize T (k + 1) = z at c1 HH
      go_wp2_with fail
      go_region
      rw [HL.out, HH.out] at HQ
      clear c0 c1 x0 x1 y0 y1
      go_wp2_with fail
      go_roundw
      case rel => exact ⟨k + 1, by omega, by go_num, by rw [HL.out, HH.out]; exact HQ⟩
      case measure => simp [intOf]; omega
    · obtain rfl : k = n := by omega
      have hdi : decide (((k + 1 : Nat) : Int) < ((k + 1 : Nat) : Int)) = false := by simp
      have x0 := HP.out.c0
      have x1 := HP.out.c1
      have d0 := HP.out.d0
      have d1 := HP.out.d1
      have e0 := HP.out.e0
      have e1 := HP.out.e1
      have HBB := HP.out.b
      clear HP
      go_wp2_with fail
      refine bodyPost_ret (by simp [results, Try.results25, go_sem, *]; try rfl) rfl ?_
      exact ⟨rfl, (HBB.setCell (p := ⟨w.heap.size, 0, none⟩) (Nat.le_refl _) _).setCell (p := ⟨w.heap.size, 1, none⟩) (Nat.le_refl _) _⟩
end Go.Proofs.Ytnogdjmciekieaa.C
