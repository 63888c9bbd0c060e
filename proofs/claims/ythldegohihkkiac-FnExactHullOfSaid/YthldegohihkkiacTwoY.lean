/- The exact laws of two intervals: what they have in common, their hull. -/
import Derived.Test.YthldegohihkkiacTab
import Derived.Deep.RegionHeld3
import Derived.Deep.DeepCutAuto
namespace Go.Proofs.Ythldegohihkkiac.C
open Go.RowKit
set_option linter.unusedVariables false
set_option linter.unusedSimpArgs false

theorem two_ne2 (n : Nat) : ¬ n + 1 + 1 = n := by omega
theorem two_ne2' (n : Nat) : ¬ n = n + 1 + 1 := by omega
theorem two_ne3 (n : Nat) : ¬ n + 1 + 1 + 1 = n := by omega
theorem two_ne3' (n : Nat) : ¬ n = n + 1 + 1 + 1 := by omega
/-- Two intervals in blocks b and b + 1, and what else is known behind a statement of an exact law. -/
def TwoS (a0 a1 b0 b1 : Int) (w : World) (wx : World) : Prop :=
  (wx.cell? ⟨w.heap.size, 0, none⟩ = some (.int .i64 a0) ∧ wx.cell? ⟨w.heap.size, 1, none⟩ = some (.int .i64 a1) ∧ wx.cell? ⟨w.heap.size + 1, 0, none⟩ = some (.int .i64 b0) ∧ wx.cell? ⟨w.heap.size + 1, 1, none⟩ = some (.int .i64 b1)) ∧ Below w.heap.size w wx
set_option maxHeartbeats 8000000 in
theorem walk_FnExactMeetOf (a0 a1 b0 b1 : Int) (w : World) (w0 : (Lit.int .i64 a0).wf = true) (w1 : (Lit.int .i64 a1).wf = true) (w2 : (Lit.int .i64 b0).wf = true) (w3 : (Lit.int .i64 b1).wf = true) :
    Calls Try.prog 6 #[.agg #[.int .i64 a0, .int .i64 a1], .agg #[.int .i64 b0, .int .i64 b1]] w fun e w' => e = .returned (.bool true) ∧ Below w.heap.size w w' := by
  clear w0 w1 w2 w3
  have e2 := two_ne2
  have e2' := two_ne2'
  have e3 := two_ne3
  have e3' := two_ne3'
  have HS := AllLt.start w; have hn2 := lt2; have hn3 := lt3; have hn4 := lt4; go_enter Try.func6, Try.ntmps6
  go_upto_region 1 with fail
  go_cut [5, 6] (fun s5 s6 wx => ∃ g : Nat, s5 = .pointer (some ⟨g, 0, none⟩) ∧ s6 = .bool (mtB a0 a1 b0 b1) ∧ (wx.cell? ⟨w.heap.size, 0, none⟩ = some (.int .i64 a0) ∧ wx.cell? ⟨w.heap.size, 1, none⟩ = some (.int .i64 a1) ∧ wx.cell? ⟨w.heap.size + 1, 0, none⟩ = some (.int .i64 b0) ∧ wx.cell? ⟨w.heap.size + 1, 1, none⟩ = some (.int .i64 b1)) ∧
      wx.cell? ⟨g, 0, none⟩ = some (.int .i64 (mtF a0 a1 b0 b1)) ∧ wx.cell? ⟨g, 1, none⟩ = some (.int .i64 (mtT a0 a1 b0 b1)) ∧ Below w.heap.size w wx ∧ w.heap.size + 1 < wx.heap.size)
  case first =>
    go_region_held3 (fun w' => w'.cell? ⟨w.heap.size, 0, none⟩ = some (.int .i64 a0) ∧ w'.cell? ⟨w.heap.size, 1, none⟩ = some (.int .i64 a1) ∧ w'.cell? ⟨w.heap.size + 1, 0, none⟩ = some (.int .i64 b0) ∧ w'.cell? ⟨w.heap.size + 1, 1, none⟩ = some (.int .i64 b1)) (go_keep)
      (first | (go_at_call 19; (with_reducible refine (toInterval_any _ _ _).mono ?_); rintro e w' ⟨rfl, hb⟩; obtain ⟨HB, hz0, hz, hc, hf⟩ := bst (w0 := w) (by go_grown) hb; clear hb; (try simp at hz); (first | ((refine HS.g5 (m := w'.heap.size) ?_ ?_); (focus omega); intro HS) | ((refine HS.g4 (m := w'.heap.size) ?_ ?_); (focus omega); intro HS) | ((refine HS.g3 (m := w'.heap.size) ?_ ?_); (focus omega); intro HS) | ((refine HS.g2 (m := w'.heap.size) ?_ ?_); (focus omega); intro HS) | ((refine HS.g1 (m := w'.heap.size) ?_ ?_); (focus omega); intro HS) | ((refine HS.g0 (m := w'.heap.size) ?_ ?_); (focus omega); intro HS)); have HU := HS; simp only [AllLt] at HU) | (go_at_call 18; (with_reducible refine (sMeetOf_any _ _ _ _ _).mono ?_); rintro e w' ⟨rfl, hb⟩; obtain ⟨HB, hz0, hz, hc, hf⟩ := bst (w0 := w) (by go_grown) hb; clear hb; (try simp at hz); (first | ((refine HS.g5 (m := w'.heap.size) ?_ ?_); (focus omega); intro HS) | ((refine HS.g4 (m := w'.heap.size) ?_ ?_); (focus omega); intro HS) | ((refine HS.g3 (m := w'.heap.size) ?_ ?_); (focus omega); intro HS) | ((refine HS.g2 (m := w'.heap.size) ?_ ?_); (focus omega); intro HS) | ((refine HS.g1 (m := w'.heap.size) ?_ ?_); (focus omega); intro HS) | ((refine HS.g0 (m := w'.heap.size) ?_ ?_); (focus omega); intro HS)); have HU := HS; simp only [AllLt] at HU))
    all_goals
      go_wp2_with fail
      go_meet
      exact ⟨_, rfl, rfl, ⟨by simp [go_sem, *], by simp [go_sem, *], by simp [go_sem, *], by simp [go_sem, *]⟩, by simp [go_sem, *], by simp [go_sem, *], by (repeat' (first | (with_reducible exact Below.refl _ _) | (with_reducible refine Below.setCell ?_ ?_ _) | (with_reducible refine below_drewN' ?_ _) | (with_reducible refine below_drew' ?_) | (with_reducible refine Below.alloc ?_ ?_ _) | (with_reducible assumption) | go_size)), by simp only [World.size_setCell, World.size_alloc]; omega⟩
  case rest =>
    obtain ⟨g, rfl, rfl, ⟨r0, r1, r2, r3⟩, g0, g1, HBc, hzc⟩ := hcut
    rename_i wc
    have hg : g < wc.heap.size := cell_lt' g0
    clear HS
    go_upto_region 2 with fail
    go_cut [7, 8] (fun s7 s8 wx => ∃ h : Nat, s7 = .pointer (some ⟨h, 0, none⟩) ∧ s8 = .bool (mtB a0 a1 b0 b1) ∧ wx.cell? ⟨g, 0, none⟩ = some (.int .i64 (mtF a0 a1 b0 b1)) ∧ wx.cell? ⟨g, 1, none⟩ = some (.int .i64 (mtT a0 a1 b0 b1)) ∧
        wx.cell? ⟨h, 0, none⟩ = some (.int .i64 (mtF a0 a1 b0 b1)) ∧ wx.cell? ⟨h, 1, none⟩ = some (.int .i64 (mtT a0 a1 b0 b1)) ∧ Below w.heap.size w wx)
    case first =>
      have z3 : w.heap.size < wc.heap.size := by omega
      have HS := AllLt.start wc
      go_region_held3 (fun w' => w'.cell? ⟨w.heap.size, 0, none⟩ = some (.int .i64 a0) ∧ w'.cell? ⟨w.heap.size, 1, none⟩ = some (.int .i64 a1) ∧ w'.cell? ⟨w.heap.size + 1, 0, none⟩ = some (.int .i64 b0) ∧ w'.cell? ⟨w.heap.size + 1, 1, none⟩ = some (.int .i64 b1))
        (first | exact ⟨r0, r1, r2, r3⟩ | exact ⟨(Below.cell (B := wc.heap.size) (w := wc) (p := ⟨w.heap.size, 0, none⟩) (by (repeat' (first | (with_reducible exact Below.refl _ _) | (with_reducible refine Below.setCell ?_ ?_ _) | (with_reducible refine below_drewN' ?_ _) | (with_reducible refine below_drew' ?_) | (with_reducible refine Below.alloc ?_ ?_ _) | (with_reducible assumption) | go_size))) z3).trans r0, (Below.cell (B := wc.heap.size) (w := wc) (p := ⟨w.heap.size, 1, none⟩) (by (repeat' (first | (with_reducible exact Below.refl _ _) | (with_reducible refine Below.setCell ?_ ?_ _) | (with_reducible refine below_drewN' ?_ _) | (with_reducible refine below_drew' ?_) | (with_reducible refine Below.alloc ?_ ?_ _) | (with_reducible assumption) | go_size))) z3).trans r1, (Below.cell (B := wc.heap.size) (w := wc) (p := ⟨w.heap.size + 1, 0, none⟩) (by (repeat' (first | (with_reducible exact Below.refl _ _) | (with_reducible refine Below.setCell ?_ ?_ _) | (with_reducible refine below_drewN' ?_ _) | (with_reducible refine below_drew' ?_) | (with_reducible refine Below.alloc ?_ ?_ _) | (with_reducible assumption) | go_size))) hzc).trans r2, (Below.cell (B := wc.heap.size) (w := wc) (p := ⟨w.heap.size + 1, 1, none⟩) (by (repeat' (first | (with_reducible exact Below.refl _ _) | (with_reducible refine Below.setCell ?_ ?_ _) | (with_reducible refine below_drewN' ?_ _) | (with_reducible refine below_drew' ?_) | (with_reducible refine Below.alloc ?_ ?_ _) | (with_reducible assumption) | go_size))) hzc).trans r3⟩ | go_keep)
        (first | (go_at_call 19; (with_reducible refine (toInterval_any _ _ _).mono ?_); rintro e w' ⟨rfl, hb⟩; obtain ⟨HB, hz0, hz, hc, hf⟩ := bst (w0 := wc) (by go_grown) hb; clear hb; (try simp at hz); (first | ((refine HS.g5 (m := w'.heap.size) ?_ ?_); (focus omega); intro HS) | ((refine HS.g4 (m := w'.heap.size) ?_ ?_); (focus omega); intro HS) | ((refine HS.g3 (m := w'.heap.size) ?_ ?_); (focus omega); intro HS) | ((refine HS.g2 (m := w'.heap.size) ?_ ?_); (focus omega); intro HS) | ((refine HS.g1 (m := w'.heap.size) ?_ ?_); (focus omega); intro HS) | ((refine HS.g0 (m := w'.heap.size) ?_ ?_); (focus omega); intro HS)); have HU := HS; simp only [AllLt] at HU) | (go_at_call 20; (with_reducible refine (iMeetOf_any _ _ _ _ _).mono ?_); rintro e w' ⟨rfl, hb⟩; obtain ⟨HB, hz0, hz, hc, hf⟩ := bst (w0 := wc) (by go_grown) hb; clear hb; (try simp at hz); (first | ((refine HS.g5 (m := w'.heap.size) ?_ ?_); (focus omega); intro HS) | ((refine HS.g4 (m := w'.heap.size) ?_ ?_); (focus omega); intro HS) | ((refine HS.g3 (m := w'.heap.size) ?_ ?_); (focus omega); intro HS) | ((refine HS.g2 (m := w'.heap.size) ?_ ?_); (focus omega); intro HS) | ((refine HS.g1 (m := w'.heap.size) ?_ ?_); (focus omega); intro HS) | ((refine HS.g0 (m := w'.heap.size) ?_ ?_); (focus omega); intro HS)); have HU := HS; simp only [AllLt] at HU))
      all_goals
        have k0 := HB.cell (p := ⟨g, 0, none⟩) hg
        have k1 := HB.cell (p := ⟨g, 1, none⟩) hg
        have kg : g < w'.heap.size := Nat.lt_of_lt_of_le hg HB.size
        have kg2 : ¬ g = w'.heap.size := by omega
        have kg3 : ¬ w'.heap.size = g := by omega
        go_wp2_with fail
        go_meet
        exact ⟨_, rfl, rfl, (Below.cell (B := wc.heap.size) (w := wc) (p := ⟨g, 0, none⟩) (by (repeat' (first | (with_reducible exact Below.refl _ _) | (with_reducible refine Below.setCell ?_ ?_ _) | (with_reducible refine below_drewN' ?_ _) | (with_reducible refine below_drew' ?_) | (with_reducible refine Below.alloc ?_ ?_ _) | (with_reducible assumption) | go_size))) hg).trans g0, (Below.cell (B := wc.heap.size) (w := wc) (p := ⟨g, 1, none⟩) (by (repeat' (first | (with_reducible exact Below.refl _ _) | (with_reducible refine Below.setCell ?_ ?_ _) | (with_reducible refine below_drewN' ?_ _) | (with_reducible refine below_drew' ?_) | (with_reducible refine Below.alloc ?_ ?_ _) | (with_reducible assumption) | go_size))) hg).trans g1, by simp [go_sem, *], by simp [go_sem, *], HBc.trans (Below.mono (by (repeat' (first | (with_reducible exact Below.refl _ _) | (with_reducible refine Below.setCell ?_ ?_ _) | (with_reducible refine below_drewN' ?_ _) | (with_reducible refine below_drew' ?_) | (with_reducible refine Below.alloc ?_ ?_ _) | (with_reducible assumption) | go_size))) HBc.size)⟩
    case rest =>
      obtain ⟨h, rfl, rfl, g0, g1, h0, h1, HBd⟩ := hcut
      go_wp2_with (first | (go_at_call 21; (with_reducible refine (eqInterval_same _ _ _).mono ?_); rintro e w' ⟨rfl, hb⟩))
      go_ret
      exact ⟨rfl, HBd.trans (hb.mono HBd.size)⟩
set_option maxHeartbeats 8000000 in
theorem walk_FnExactHullOf (a0 a1 b0 b1 : Int) (w : World) (w0 : (Lit.int .i64 a0).wf = true) (w1 : (Lit.int .i64 a1).wf = true) (w2 : (Lit.int .i64 b0).wf = true) (w3 : (Lit.int .i64 b1).wf = true) :
    Calls Try.prog 7 #[.agg #[.int .i64 a0, .int .i64 a1], .agg #[.int .i64 b0, .int .i64 b1]] w fun e w' => e = .returned (.bool true) ∧ Below w.heap.size w w' := by
  clear w0 w1 w2 w3
  have e2 := two_ne2
  have e2' := two_ne2'
  have e3 := two_ne3
  have e3' := two_ne3'
  have HS := AllLt.start w; have hn2 := lt2; have hn3 := lt3; have hn4 := lt4; go_enter Try.func7, Try.ntmps7
  go_upto_region 1 with fail
  go_cut [5, 6] (fun s5 s6 wx => ∃ g : Nat, s5 = .pointer (some ⟨g, 0, none⟩) ∧ s6 = .bool (bo a0 a1 b0 b1) ∧ (wx.cell? ⟨w.heap.size, 0, none⟩ = some (.int .i64 a0) ∧ wx.cell? ⟨w.heap.size, 1, none⟩ = some (.int .i64 a1) ∧ wx.cell? ⟨w.heap.size + 1, 0, none⟩ = some (.int .i64 b0) ∧ wx.cell? ⟨w.heap.size + 1, 1, none⟩ = some (.int .i64 b1)) ∧
      wx.cell? ⟨g, 0, none⟩ = some (.int .i64 (huF a0 a1 b0 b1)) ∧ wx.cell? ⟨g, 1, none⟩ = some (.int .i64 (huT a0 a1 b0 b1)) ∧ Below w.heap.size w wx ∧ w.heap.size + 1 < wx.heap.size)
  case first =>
    go_region_held3 (fun w' => w'.cell? ⟨w.heap.size, 0, none⟩ = some (.int .i64 a0) ∧ w'.cell? ⟨w.heap.size, 1, none⟩ = some (.int .i64 a1) ∧ w'.cell? ⟨w.heap.size + 1, 0, none⟩ = some (.int .i64 b0) ∧ w'.cell? ⟨w.heap.size + 1, 1, none⟩ = some (.int .i64 b1)) (go_keep)
      (first | (go_at_call 19; (with_reducible refine (toInterval_any _ _ _).mono ?_); rintro e w' ⟨rfl, hb⟩; obtain ⟨HB, hz0, hz, hc, hf⟩ := bst (w0 := w) (by go_grown) hb; clear hb; (try simp at hz); (first | ((refine HS.g5 (m := w'.heap.size) ?_ ?_); (focus omega); intro HS) | ((refine HS.g4 (m := w'.heap.size) ?_ ?_); (focus omega); intro HS) | ((refine HS.g3 (m := w'.heap.size) ?_ ?_); (focus omega); intro HS) | ((refine HS.g2 (m := w'.heap.size) ?_ ?_); (focus omega); intro HS) | ((refine HS.g1 (m := w'.heap.size) ?_ ?_); (focus omega); intro HS) | ((refine HS.g0 (m := w'.heap.size) ?_ ?_); (focus omega); intro HS)); have HU := HS; simp only [AllLt] at HU) | (go_at_call 22; (with_reducible refine (sHullOf_any _ _ _ _ _).mono ?_); rintro e w' ⟨rfl, hb⟩; obtain ⟨HB, hz0, hz, hc, hf⟩ := bst (w0 := w) (by go_grown) hb; clear hb; (try simp at hz); (first | ((refine HS.g5 (m := w'.heap.size) ?_ ?_); (focus omega); intro HS) | ((refine HS.g4 (m := w'.heap.size) ?_ ?_); (focus omega); intro HS) | ((refine HS.g3 (m := w'.heap.size) ?_ ?_); (focus omega); intro HS) | ((refine HS.g2 (m := w'.heap.size) ?_ ?_); (focus omega); intro HS) | ((refine HS.g1 (m := w'.heap.size) ?_ ?_); (focus omega); intro HS) | ((refine HS.g0 (m := w'.heap.size) ?_ ?_); (focus omega); intro HS)); have HU := HS; simp only [AllLt] at HU))
    all_goals
      go_wp2_with fail
      go_meet
      exact ⟨_, rfl, rfl, ⟨by simp [go_sem, *], by simp [go_sem, *], by simp [go_sem, *], by simp [go_sem, *]⟩, by simp [go_sem, *], by simp [go_sem, *], by (repeat' (first | (with_reducible exact Below.refl _ _) | (with_reducible refine Below.setCell ?_ ?_ _) | (with_reducible refine below_drewN' ?_ _) | (with_reducible refine below_drew' ?_) | (with_reducible refine Below.alloc ?_ ?_ _) | (with_reducible assumption) | go_size)), by simp only [World.size_setCell, World.size_alloc]; omega⟩
  case rest =>
    obtain ⟨g, rfl, rfl, ⟨r0, r1, r2, r3⟩, g0, g1, HBc, hzc⟩ := hcut
    rename_i wc
    have hg : g < wc.heap.size := cell_lt' g0
    clear HS
    go_upto_region 2 with fail
    go_cut [7, 8] (fun s7 s8 wx => ∃ h : Nat, s7 = .pointer (some ⟨h, 0, none⟩) ∧ s8 = .bool (bo a0 a1 b0 b1) ∧ wx.cell? ⟨g, 0, none⟩ = some (.int .i64 (huF a0 a1 b0 b1)) ∧ wx.cell? ⟨g, 1, none⟩ = some (.int .i64 (huT a0 a1 b0 b1)) ∧
        wx.cell? ⟨h, 0, none⟩ = some (.int .i64 (huF a0 a1 b0 b1)) ∧ wx.cell? ⟨h, 1, none⟩ = some (.int .i64 (huT a0 a1 b0 b1)) ∧ Below w.heap.size w wx)
    case first =>
      have z3 : w.heap.size < wc.heap.size := by omega
      have HS := AllLt.start wc
      go_region_held3 (fun w' => w'.cell? ⟨w.heap.size, 0, none⟩ = some (.int .i64 a0) ∧ w'.cell? ⟨w.heap.size, 1, none⟩ = some (.int .i64 a1) ∧ w'.cell? ⟨w.heap.size + 1, 0, none⟩ = some (.int .i64 b0) ∧ w'.cell? ⟨w.heap.size + 1, 1, none⟩ = some (.int .i64 b1))
        (first | exact ⟨r0, r1, r2, r3⟩ | exact ⟨(Below.cell (B := wc.heap.size) (w := wc) (p := ⟨w.heap.size, 0, none⟩) (by (repeat' (first | (with_reducible exact Below.refl _ _) | (with_reducible refine Below.setCell ?_ ?_ _) | (with_reducible refine below_drewN' ?_ _) | (with_reducible refine below_drew' ?_) | (with_reducible refine Below.alloc ?_ ?_ _) | (with_reducible assumption) | go_size))) z3).trans r0, (Below.cell (B := wc.heap.size) (w := wc) (p := ⟨w.heap.size, 1, none⟩) (by (repeat' (first | (with_reducible exact Below.refl _ _) | (with_reducible refine Below.setCell ?_ ?_ _) | (with_reducible refine below_drewN' ?_ _) | (with_reducible refine below_drew' ?_) | (with_reducible refine Below.alloc ?_ ?_ _) | (with_reducible assumption) | go_size))) z3).trans r1, (Below.cell (B := wc.heap.size) (w := wc) (p := ⟨w.heap.size + 1, 0, none⟩) (by (repeat' (first | (with_reducible exact Below.refl _ _) | (with_reducible refine Below.setCell ?_ ?_ _) | (with_reducible refine below_drewN' ?_ _) | (with_reducible refine below_drew' ?_) | (with_reducible refine Below.alloc ?_ ?_ _) | (with_reducible assumption) | go_size))) hzc).trans r2, (Below.cell (B := wc.heap.size) (w := wc) (p := ⟨w.heap.size + 1, 1, none⟩) (by (repeat' (first | (with_reducible exact Below.refl _ _) | (with_reducible refine Below.setCell ?_ ?_ _) | (with_reducible refine below_drewN' ?_ _) | (with_reducible refine below_drew' ?_) | (with_reducible refine Below.alloc ?_ ?_ _) | (with_reducible assumption) | go_size))) hzc).trans r3⟩ | go_keep)
        (first | (go_at_call 19; (with_reducible refine (toInterval_any _ _ _).mono ?_); rintro e w' ⟨rfl, hb⟩; obtain ⟨HB, hz0, hz, hc, hf⟩ := bst (w0 := wc) (by go_grown) hb; clear hb; (try simp at hz); (first | ((refine HS.g5 (m := w'.heap.size) ?_ ?_); (focus omega); intro HS) | ((refine HS.g4 (m := w'.heap.size) ?_ ?_); (focus omega); intro HS) | ((refine HS.g3 (m := w'.heap.size) ?_ ?_); (focus omega); intro HS) | ((refine HS.g2 (m := w'.heap.size) ?_ ?_); (focus omega); intro HS) | ((refine HS.g1 (m := w'.heap.size) ?_ ?_); (focus omega); intro HS) | ((refine HS.g0 (m := w'.heap.size) ?_ ?_); (focus omega); intro HS)); have HU := HS; simp only [AllLt] at HU) | (go_at_call 23; (with_reducible refine (iHullOf_any _ _ _ _ _).mono ?_); rintro e w' ⟨rfl, hb⟩; obtain ⟨HB, hz0, hz, hc, hf⟩ := bst (w0 := wc) (by go_grown) hb; clear hb; (try simp at hz); (first | ((refine HS.g5 (m := w'.heap.size) ?_ ?_); (focus omega); intro HS) | ((refine HS.g4 (m := w'.heap.size) ?_ ?_); (focus omega); intro HS) | ((refine HS.g3 (m := w'.heap.size) ?_ ?_); (focus omega); intro HS) | ((refine HS.g2 (m := w'.heap.size) ?_ ?_); (focus omega); intro HS) | ((refine HS.g1 (m := w'.heap.size) ?_ ?_); (focus omega); intro HS) | ((refine HS.g0 (m := w'.heap.size) ?_ ?_); (focus omega); intro HS)); have HU := HS; simp only [AllLt] at HU))
      all_goals
        have k0 := HB.cell (p := ⟨g, 0, none⟩) hg
        have k1 := HB.cell (p := ⟨g, 1, none⟩) hg
        have kg : g < w'.heap.size := Nat.lt_of_lt_of_le hg HB.size
        have kg2 : ¬ g = w'.heap.size := by omega
        have kg3 : ¬ w'.heap.size = g := by omega
        go_wp2_with fail
        go_meet
        exact ⟨_, rfl, rfl, (Below.cell (B := wc.heap.size) (w := wc) (p := ⟨g, 0, none⟩) (by (repeat' (first | (with_reducible exact Below.refl _ _) | (with_reducible refine Below.setCell ?_ ?_ _) | (with_reducible refine below_drewN' ?_ _) | (with_reducible refine below_drew' ?_) | (with_reducible refine Below.alloc ?_ ?_ _) | (with_reducible assumption) | go_size))) hg).trans g0, (Below.cell (B := wc.heap.size) (w := wc) (p := ⟨g, 1, none⟩) (by (repeat' (first | (with_reducible exact Below.refl _ _) | (with_reducible refine Below.setCell ?_ ?_ _) | (with_reducible refine below_drewN' ?_ _) | (with_reducible refine below_drew' ?_) | (with_reducible refine Below.alloc ?_ ?_ _) | (with_reducible assumption) | go_size))) hg).trans g1, by simp [go_sem, *], by simp [go_sem, *], HBc.trans (Below.mono (by (repeat' (first | (with_reducible exact Below.refl _ _) | (with_reducible refine Below.setCell ?_ ?_ _) | (with_reducible refine below_drewN' ?_ _) | (with_reducible refine below_drew' ?_) | (with_reducible refine Below.alloc ?_ ?_ _) | (with_reducible assumption) | go_size))) HBc.size)⟩
    case rest =>
      obtain ⟨h, rfl, rfl, g0, g1, h0, h1, HBd⟩ := hcut
      go_wp2_with (first | (go_at_call 21; (with_reducible refine (eqInterval_same _ _ _).mono ?_); rintro e w' ⟨rfl, hb⟩))
      go_ret
      exact ⟨rfl, HBd.trans (hb.mono HBd.size)⟩
end Go.Proofs.Ythldegohihkkiac.C
