/- Two networks: whether one lies within the other in the model, and the exact laws. -/
import Derived.Test.YtholffjadnaloaaDoorNtm
import Derived.Test.YtholffjadnaloaaDoorMee
import Derived.Test.YtholffjadnaloaaDoorNetY
namespace Go.Proofs.YtholffjadnaloaaDoor.C
open Go.RowKit
set_option linter.unusedVariables false
set_option linter.unusedSimpArgs false
theorem met_same {n : Nat} {R S : Nat → Nat → Nat} (hR : OkR n R) (hS : OkR n S) (h : witB R S (edL n) = true) : netS n (meetR R S) = netS n R := by rw [(wit_meet hR hS).1 h]
theorem met_diff {n : Nat} {R S : Nat → Nat → Nat} (hR : OkR n R) (hS : OkR n S) (h : witB R S (edL n) = false) : ¬ netS n (meetR R S) = netS n R := by
  intro e
  have := (wit_meet hR hS).2 (netS_inj (meetR_ok hR hS) hR e)
  rw [h] at this; cases this
set_option maxHeartbeats 1000000 in
set_option maxRecDepth 100000 in
theorem sWithinNet_any (z : Int) (s : ByteArray) (y : Int) (t : ByteArray) (w : World) :
    Calls Tryd.prog 19 #[.agg #[.int .i64 z, .string s], .agg #[.int .i64 y, .string t]] w fun e w' => e = .returned (.bool (winB z s y t)) ∧ Below w.heap.size w w' := by
  rcases botB_cases z s y t with h | ⟨n, R, S, hR, hS, rfl, rfl, rfl, rfl⟩
  · have HM := hid (sMeetNets_no z s y t h)
    have HV := hid (winB_no h)
    clear h
    have HS := AllLt.start w; have hn2 := lt2; have hn3 := lt3; have hn4 := lt4; go_enter Tryd.func19, Tryd.ntmps19
    go_wp2_with (first | (go_at_call 16; (with_reducible refine (HM.out _).mono ?_); rintro e w' ⟨rfl, hb⟩; obtain ⟨HB, hz0, hz, hc, hf⟩ := bst (w0 := w) (by go_grown) hb; clear hb; (try simp at hz); (first | ((refine HS.g5 (m := w'.heap.size) ?_ ?_); (focus omega); intro HS) | ((refine HS.g4 (m := w'.heap.size) ?_ ?_); (focus omega); intro HS) | ((refine HS.g3 (m := w'.heap.size) ?_ ?_); (focus omega); intro HS) | ((refine HS.g2 (m := w'.heap.size) ?_ ?_); (focus omega); intro HS) | ((refine HS.g1 (m := w'.heap.size) ?_ ?_); (focus omega); intro HS) | ((refine HS.g0 (m := w'.heap.size) ?_ ?_); (focus omega); intro HS)); have HU := HS; simp only [AllLt] at HU))
    go_ret
    exact ⟨ret_bool HV.out.symm, by (repeat' (first | (with_reducible exact Below.refl _ _) | (with_reducible refine Below.setCell ?_ ?_ _) | (with_reducible refine below_drewN' ?_ _) | (with_reducible refine below_drew' ?_) | (with_reducible refine Below.alloc ?_ ?_ _) | (with_reducible assumption) | go_size))⟩
  · have HM := hid (sMeetNets_yes n R S hR hS)
    have HV := hid (winB_yes hR hS)
    cases hv : witB R S (edL n)
    · have hd := met_diff hR hS hv
      rw [hv] at HV
      generalize winB n (netS n R) n (netS n S) = v at *
      clear hv hR hS
      generalize netS n (meetR R S) = u at *
      generalize netS n R = s at *
      generalize netS n S = t at *
      have hq := seq_f hd
      have HS := AllLt.start w; have hn2 := lt2; have hn3 := lt3; have hn4 := lt4; go_enter Tryd.func19, Tryd.ntmps19
      go_wp2_with (first | (go_at_call 16; (with_reducible refine (HM.out _).mono ?_); rintro e w' ⟨rfl, hb⟩; obtain ⟨HB, hz0, hz, hc, hf⟩ := bst (w0 := w) (by go_grown) hb; clear hb; (try simp at hz); (first | ((refine HS.g5 (m := w'.heap.size) ?_ ?_); (focus omega); intro HS) | ((refine HS.g4 (m := w'.heap.size) ?_ ?_); (focus omega); intro HS) | ((refine HS.g3 (m := w'.heap.size) ?_ ?_); (focus omega); intro HS) | ((refine HS.g2 (m := w'.heap.size) ?_ ?_); (focus omega); intro HS) | ((refine HS.g1 (m := w'.heap.size) ?_ ?_); (focus omega); intro HS) | ((refine HS.g0 (m := w'.heap.size) ?_ ?_); (focus omega); intro HS)); have HU := HS; simp only [AllLt] at HU))
      go_ret
      exact ⟨ret_bool HV.out.symm, by (repeat' (first | (with_reducible exact Below.refl _ _) | (with_reducible refine Below.setCell ?_ ?_ _) | (with_reducible refine below_drewN' ?_ _) | (with_reducible refine below_drew' ?_) | (with_reducible refine Below.alloc ?_ ?_ _) | (with_reducible assumption) | go_size))⟩
    · have hd := met_same hR hS hv
      rw [hv] at HV
      rw [hd] at HM
      generalize winB n (netS n R) n (netS n S) = v at *
      clear hv hR hS hd
      generalize netS n R = s at *
      generalize netS n S = t at *
      have HS := AllLt.start w; have hn2 := lt2; have hn3 := lt3; have hn4 := lt4; go_enter Tryd.func19, Tryd.ntmps19
      go_wp2_with (first | (go_at_call 16; (with_reducible refine (HM.out _).mono ?_); rintro e w' ⟨rfl, hb⟩; obtain ⟨HB, hz0, hz, hc, hf⟩ := bst (w0 := w) (by go_grown) hb; clear hb; (try simp at hz); (first | ((refine HS.g5 (m := w'.heap.size) ?_ ?_); (focus omega); intro HS) | ((refine HS.g4 (m := w'.heap.size) ?_ ?_); (focus omega); intro HS) | ((refine HS.g3 (m := w'.heap.size) ?_ ?_); (focus omega); intro HS) | ((refine HS.g2 (m := w'.heap.size) ?_ ?_); (focus omega); intro HS) | ((refine HS.g1 (m := w'.heap.size) ?_ ?_); (focus omega); intro HS) | ((refine HS.g0 (m := w'.heap.size) ?_ ?_); (focus omega); intro HS)); have HU := HS; simp only [AllLt] at HU))
      go_ret
      exact ⟨ret_bool HV.out.symm, by (repeat' (first | (with_reducible exact Below.refl _ _) | (with_reducible refine Below.setCell ?_ ?_ _) | (with_reducible refine below_drewN' ?_ _) | (with_reducible refine below_drew' ?_) | (with_reducible refine Below.alloc ?_ ?_ _) | (with_reducible assumption) | go_size))⟩
theorem szNet_at (z : Int) (s : ByteArray) (left : Int) (h0 : (s.size : Int) ≤ left) (h1 : left ≤ 1048576) (w : World) :
    Calls Tryd.prog 12 #[.agg #[.int .i64 z, .string s], .int .i64 left] w fun e w' => e = .returned (.int .i64 (left - s.size)) ∧ Below w.heap.size w w' := by
  have h2 : ¬ (left - (s.size : Int) < 0) := by omega
  have h3 : decide (left - (s.size : Int) < 0) = false := by simp; omega
  have h4 : IntKind.i64.wrap (left - (s.size : Int)) = left - (s.size : Int) := IntWalk.i64_in _ (by omega)
  have HS := AllLt.start w; go_enter Tryd.func12, Tryd.ntmps12
  go_wp2
  go_ret
  exact ⟨rfl, by (repeat' (first | (with_reducible exact Below.refl _ _) | (with_reducible refine Below.setCell ?_ ?_ _) | (with_reducible refine below_drewN' ?_ _) | (with_reducible refine below_drew' ?_) | (with_reducible refine Below.alloc ?_ ?_ _) | (with_reducible assumption) | go_size))⟩
theorem szNet_out (z : Int) (s : ByteArray) (left : Int) (h0 : ¬ (s.size : Int) ≤ left) (hm : s.size ≤ maxLen) (hl : 0 ≤ left) (h1 : left ≤ 1048576) (w : World) :
    Calls Tryd.prog 12 #[.agg #[.int .i64 z, .string s], .int .i64 left] w fun e w' => e = .returned (.int .i64 (-1)) ∧ Below w.heap.size w w' := by
  unfold maxLen at hm
  have h2 : left - (s.size : Int) < 0 := by omega
  have h3 : decide (left - (s.size : Int) < 0) = true := by simp; omega
  have h4 : IntKind.i64.wrap (left - (s.size : Int)) = left - (s.size : Int) := IntWalk.i64_in _ (by omega)
  have HS := AllLt.start w; go_enter Tryd.func12, Tryd.ntmps12
  go_wp2
  go_ret
  exact ⟨rfl, by (repeat' (first | (with_reducible exact Below.refl _ _) | (with_reducible refine Below.setCell ?_ ?_ _) | (with_reducible refine below_drewN' ?_ _) | (with_reducible refine below_drew' ?_) | (with_reducible refine Below.alloc ?_ ?_ _) | (with_reducible assumption) | go_size))⟩
set_option maxHeartbeats 4000000 in
set_option maxRecDepth 100000 in
theorem walk_FnExactWithinNet (a00 : Int) (a01 : ByteArray) (a10 : Int) (a11 : ByteArray) (w : World) (w00 : (Lit.int .i64 a00).wf = true) (w01 : a01.size ≤ maxLen) (w10 : (Lit.int .i64 a10).wf = true) (w11 : a11.size ≤ maxLen) (hB : TB w) :
    Calls Tryd.prog 5 #[.agg #[.int .i64 a00, .string a01], .agg #[.int .i64 a10, .string a11]] w fun e w' => e = .returned (.bool true) ∧ Below w.heap.size w w' := by
  have HT := hid hB
  clear hB w00 w10
  by_cases hs : a01.size ≤ 1048576
  · have h0 : decide ((1048576 : Int) - (a01.size : Int) < 0) = false := by simp; omega
    have h1 : decide ((1048576 : Int) < (a01.size : Int)) = false := by simp; omega
    have H1 := hid (szNet_on a00 a01 hs)
    by_cases ht : (a11.size : Int) ≤ 1048576 - (a01.size : Int)
    · have H2 := hid (szNet_at a10 a11 (1048576 - (a01.size : Int)) ht (by omega))
      have h2 : decide ((1048576 : Int) - (a01.size : Int) - (a11.size : Int) < 0) = false := by simp; omega
      have HM := hid (sWithinNet_any a00 a01 a10 a11)
      have HI := hid (iWithinNet_any a00 a01 a10 a11)
      clear w01 w11
      have HB0 := hid (((Below.refl w.heap.size w).alloc (Nat.le_refl _) (.cells #[.int .i64 a00, .string a01] 23)).alloc (by simp) (.cells #[.int .i64 a10, .string a11] 23))
      generalize winB a00 a01 a10 a11 = v at *
      have HS := AllLt.start w; have hn2 := lt2; have hn3 := lt3; have hn4 := lt4; go_enter Tryd.func5, Tryd.ntmps5
      go_upto_region 8 with (first | (go_at_call 12; (with_reducible refine (H1.out _).mono ?_); rintro e w' ⟨rfl, hb⟩; obtain ⟨HB, hz0, hz, hc, hf⟩ := bst (w0 := w) (by go_grown) hb; clear hb; (try simp at hz); (first | ((refine HS.g5 (m := w'.heap.size) ?_ ?_); (focus omega); intro HS) | ((refine HS.g4 (m := w'.heap.size) ?_ ?_); (focus omega); intro HS) | ((refine HS.g3 (m := w'.heap.size) ?_ ?_); (focus omega); intro HS) | ((refine HS.g2 (m := w'.heap.size) ?_ ?_); (focus omega); intro HS) | ((refine HS.g1 (m := w'.heap.size) ?_ ?_); (focus omega); intro HS) | ((refine HS.g0 (m := w'.heap.size) ?_ ?_); (focus omega); intro HS)); have HU := HS; simp only [AllLt] at HU) | (go_at_call 12; (with_reducible refine (H2.out _).mono ?_); rintro e w' ⟨rfl, hb⟩; obtain ⟨HB, hz0, hz, hc, hf⟩ := bst (w0 := w) (by go_grown) hb; clear hb; (try simp at hz); (first | ((refine HS.g5 (m := w'.heap.size) ?_ ?_); (focus omega); intro HS) | ((refine HS.g4 (m := w'.heap.size) ?_ ?_); (focus omega); intro HS) | ((refine HS.g3 (m := w'.heap.size) ?_ ?_); (focus omega); intro HS) | ((refine HS.g2 (m := w'.heap.size) ?_ ?_); (focus omega); intro HS) | ((refine HS.g1 (m := w'.heap.size) ?_ ?_); (focus omega); intro HS) | ((refine HS.g0 (m := w'.heap.size) ?_ ?_); (focus omega); intro HS)); have HU := HS; simp only [AllLt] at HU))
      have q0 : w'.cell? ⟨w.heap.size, 0, none⟩ = some (.int .i64 a00) := by go_simp
      have q1 : w'.cell? ⟨w.heap.size, 1, none⟩ = some (.string a01) := by go_simp
      have q2 : w'.cell? ⟨w.heap.size + 1, 0, none⟩ = some (.int .i64 a10) := by go_simp
      have q3 : w'.cell? ⟨w.heap.size + 1, 1, none⟩ = some (.string a11) := by go_simp
      have HB1 : Below w.heap.size w w' := by (repeat' (first | (with_reducible exact Below.refl _ _) | (with_reducible refine Below.setCell ?_ ?_ _) | (with_reducible refine below_drewN' ?_ _) | (with_reducible refine below_drew' ?_) | (with_reducible refine Below.alloc ?_ ?_ _) | (with_reducible assumption) | go_size))
      have hl2 : w.heap.size + 1 < w'.heap.size := cell_lt q2
      have hl : w.heap.size < w'.heap.size := by omega
      have HB1 := hid HB1
      clear HU hc hf hz hz0 HB HS
      have HS := AllLt.start w'
      generalize w' = w1 at *
      go_cut [6] (fun s6 wx => s6 = .bool v ∧ Below w1.heap.size w1 wx)
      case first =>
        go_region_held3 (fun wx => wx.cell? ⟨w.heap.size, 0, none⟩ = some (.int .i64 a00) ∧ wx.cell? ⟨w.heap.size, 1, none⟩ = some (.string a01) ∧ wx.cell? ⟨w.heap.size + 1, 0, none⟩ = some (.int .i64 a10) ∧ wx.cell? ⟨w.heap.size + 1, 1, none⟩ = some (.string a11)) (first | exact ⟨q0, q1, q2, q3⟩ | exact ⟨(Below.cell (B := w1.heap.size) (w := w1) (p := ⟨w.heap.size, 0, none⟩) (by go_grown) hl).trans q0, (Below.cell (B := w1.heap.size) (w := w1) (p := ⟨w.heap.size, 1, none⟩) (by go_grown) hl).trans q1, (Below.cell (B := w1.heap.size) (w := w1) (p := ⟨w.heap.size + 1, 0, none⟩) (by go_grown) hl2).trans q2, (Below.cell (B := w1.heap.size) (w := w1) (p := ⟨w.heap.size + 1, 1, none⟩) (by go_grown) hl2).trans q3⟩)
          (first
            | (go_at_call 14; (with_reducible refine (toNet_any _ _ _).mono ?_); rintro e w' ⟨rfl, hb⟩; obtain ⟨HB, hz0, hz, hc, hf⟩ := bst (w0 := w1) (by go_grown) hb; clear hb; (try simp at hz); (first | ((refine HS.g5 (m := w'.heap.size) ?_ ?_); (focus omega); intro HS) | ((refine HS.g4 (m := w'.heap.size) ?_ ?_); (focus omega); intro HS) | ((refine HS.g3 (m := w'.heap.size) ?_ ?_); (focus omega); intro HS) | ((refine HS.g2 (m := w'.heap.size) ?_ ?_); (focus omega); intro HS) | ((refine HS.g1 (m := w'.heap.size) ?_ ?_); (focus omega); intro HS) | ((refine HS.g0 (m := w'.heap.size) ?_ ?_); (focus omega); intro HS)); have HU := HS; simp only [AllLt] at HU)
            | (go_at_call 19; (with_reducible refine (HM.out _).mono ?_); rintro e w' ⟨rfl, hb⟩; obtain ⟨HB, hz0, hz, hc, hf⟩ := bst (w0 := w1) (by go_grown) hb; clear hb; (try simp at hz); (first | ((refine HS.g5 (m := w'.heap.size) ?_ ?_); (focus omega); intro HS) | ((refine HS.g4 (m := w'.heap.size) ?_ ?_); (focus omega); intro HS) | ((refine HS.g3 (m := w'.heap.size) ?_ ?_); (focus omega); intro HS) | ((refine HS.g2 (m := w'.heap.size) ?_ ?_); (focus omega); intro HS) | ((refine HS.g1 (m := w'.heap.size) ?_ ?_); (focus omega); intro HS) | ((refine HS.g0 (m := w'.heap.size) ?_ ?_); (focus omega); intro HS)); have HU := HS; simp only [AllLt] at HU)
            | fail)
        all_goals
          go_wp2_with fail
          go_meet
          exact ⟨rfl, by (repeat' (first | (with_reducible exact Below.refl _ _) | (with_reducible refine Below.setCell ?_ ?_ _) | (with_reducible refine below_drewN' ?_ _) | (with_reducible refine below_drew' ?_) | (with_reducible refine Below.alloc ?_ ?_ _) | (with_reducible assumption) | go_size))⟩
      case rest =>
        obtain ⟨rfl, hBx⟩ := hcut
        rename_i wc
        have hzx := hBx.size
        have p0 := (hBx.cell (p := ⟨w.heap.size, 0, none⟩) hl).trans q0
        have p1 := (hBx.cell (p := ⟨w.heap.size, 1, none⟩) hl).trans q1
        have p2 := (hBx.cell (p := ⟨w.heap.size + 1, 0, none⟩) hl2).trans q2
        have p3 := (hBx.cell (p := ⟨w.heap.size + 1, 1, none⟩) hl2).trans q3
        have HBc := hid (HB1.out.trans (hBx.mono HB1.out.size))
        have hl3 : w.heap.size < wc.heap.size := by omega
        have hl4 : w.heap.size + 1 < wc.heap.size := by omega
        clear q0 q1 q2 q3 hl hl2 hBx hzx HB1 HS
        have HS := AllLt.start wc
        go_upto_region 9 with fail
        go_cut [7] (fun s7 wx => s7 = .bool v ∧ Below wc.heap.size wc wx)
        case first =>
          go_region_held3 (fun wx => wx.cell? ⟨w.heap.size, 0, none⟩ = some (.int .i64 a00) ∧ wx.cell? ⟨w.heap.size, 1, none⟩ = some (.string a01) ∧ wx.cell? ⟨w.heap.size + 1, 0, none⟩ = some (.int .i64 a10) ∧ wx.cell? ⟨w.heap.size + 1, 1, none⟩ = some (.string a11)) (first | exact ⟨p0, p1, p2, p3⟩ | exact ⟨(Below.cell (B := wc.heap.size) (w := wc) (p := ⟨w.heap.size, 0, none⟩) (by go_grown) hl3).trans p0, (Below.cell (B := wc.heap.size) (w := wc) (p := ⟨w.heap.size, 1, none⟩) (by go_grown) hl3).trans p1, (Below.cell (B := wc.heap.size) (w := wc) (p := ⟨w.heap.size + 1, 0, none⟩) (by go_grown) hl4).trans p2, (Below.cell (B := wc.heap.size) (w := wc) (p := ⟨w.heap.size + 1, 1, none⟩) (by go_grown) hl4).trans p3⟩)
            (first
              | (go_at_call 14; (with_reducible refine (toNet_any _ _ _).mono ?_); rintro e w' ⟨rfl, hb⟩; obtain ⟨HB, hz0, hz, hc, hf⟩ := bst (w0 := wc) (by go_grown) hb; clear hb; (try simp at hz); (first | ((refine HS.g5 (m := w'.heap.size) ?_ ?_); (focus omega); intro HS) | ((refine HS.g4 (m := w'.heap.size) ?_ ?_); (focus omega); intro HS) | ((refine HS.g3 (m := w'.heap.size) ?_ ?_); (focus omega); intro HS) | ((refine HS.g2 (m := w'.heap.size) ?_ ?_); (focus omega); intro HS) | ((refine HS.g1 (m := w'.heap.size) ?_ ?_); (focus omega); intro HS) | ((refine HS.g0 (m := w'.heap.size) ?_ ?_); (focus omega); intro HS)); have HU := HS; simp only [AllLt] at HU)
              | (go_at_call 20; (with_reducible refine (HI.out _ (HT.out.below (HBc.out.trans (Below.mono (show Below wc.heap.size wc _ from by go_grown) HBc.out.size)))).mono ?_); rintro e w' ⟨rfl, hb⟩; obtain ⟨HB, hz0, hz, hc, hf⟩ := bst (w0 := wc) (by go_grown) hb; clear hb; (try simp at hz); (first | ((refine HS.g5 (m := w'.heap.size) ?_ ?_); (focus omega); intro HS) | ((refine HS.g4 (m := w'.heap.size) ?_ ?_); (focus omega); intro HS) | ((refine HS.g3 (m := w'.heap.size) ?_ ?_); (focus omega); intro HS) | ((refine HS.g2 (m := w'.heap.size) ?_ ?_); (focus omega); intro HS) | ((refine HS.g1 (m := w'.heap.size) ?_ ?_); (focus omega); intro HS) | ((refine HS.g0 (m := w'.heap.size) ?_ ?_); (focus omega); intro HS)); have HU := HS; simp only [AllLt] at HU)
              | fail)
          all_goals
            go_wp2_with fail
            go_meet
            exact ⟨rfl, by (repeat' (first | (with_reducible exact Below.refl _ _) | (with_reducible refine Below.setCell ?_ ?_ _) | (with_reducible refine below_drewN' ?_ _) | (with_reducible refine below_drew' ?_) | (with_reducible refine Below.alloc ?_ ?_ _) | (with_reducible assumption) | go_size))⟩
        case rest =>
          obtain ⟨rfl, hBy⟩ := hcut
          rename_i wd
          have HBd := hid (HBc.out.trans (hBy.mono HBc.out.size))
          clear p0 p1 p2 p3 hBy HS
          cases v
          all_goals
            go_wp2_with fail
            go_ret
            exact ⟨rfl, HBd.out⟩
    · have H2 := hid (szNet_out a10 a11 (1048576 - (a01.size : Int)) ht w11 (by omega) (by omega))
      have HS := AllLt.start w; have hn2 := lt2; have hn3 := lt3; have hn4 := lt4; go_enter Tryd.func5, Tryd.ntmps5
      go_wp2_with (first | (go_at_call 12; (with_reducible refine (H1.out _).mono ?_); rintro e w' ⟨rfl, hb⟩; obtain ⟨HB, hz0, hz, hc, hf⟩ := bst (w0 := w) (by go_grown) hb; clear hb; (try simp at hz); (first | ((refine HS.g5 (m := w'.heap.size) ?_ ?_); (focus omega); intro HS) | ((refine HS.g4 (m := w'.heap.size) ?_ ?_); (focus omega); intro HS) | ((refine HS.g3 (m := w'.heap.size) ?_ ?_); (focus omega); intro HS) | ((refine HS.g2 (m := w'.heap.size) ?_ ?_); (focus omega); intro HS) | ((refine HS.g1 (m := w'.heap.size) ?_ ?_); (focus omega); intro HS) | ((refine HS.g0 (m := w'.heap.size) ?_ ?_); (focus omega); intro HS)); have HU := HS; simp only [AllLt] at HU) | (go_at_call 12; (with_reducible refine (H2.out _).mono ?_); rintro e w' ⟨rfl, hb⟩; obtain ⟨HB, hz0, hz, hc, hf⟩ := bst (w0 := w) (by go_grown) hb; clear hb; (try simp at hz); (first | ((refine HS.g5 (m := w'.heap.size) ?_ ?_); (focus omega); intro HS) | ((refine HS.g4 (m := w'.heap.size) ?_ ?_); (focus omega); intro HS) | ((refine HS.g3 (m := w'.heap.size) ?_ ?_); (focus omega); intro HS) | ((refine HS.g2 (m := w'.heap.size) ?_ ?_); (focus omega); intro HS) | ((refine HS.g1 (m := w'.heap.size) ?_ ?_); (focus omega); intro HS) | ((refine HS.g0 (m := w'.heap.size) ?_ ?_); (focus omega); intro HS)); have HU := HS; simp only [AllLt] at HU))
      go_ret
      exact ⟨rfl, by (repeat' (first | (with_reducible exact Below.refl _ _) | (with_reducible refine Below.setCell ?_ ?_ _) | (with_reducible refine below_drewN' ?_ _) | (with_reducible refine below_drew' ?_) | (with_reducible refine Below.alloc ?_ ?_ _) | (with_reducible assumption) | go_size))⟩
  · have HS := AllLt.start w; have hn2 := lt2; have hn3 := lt3; have hn4 := lt4; go_enter Tryd.func5, Tryd.ntmps5
    go_wp2_with (first | (go_at_call 12; (with_reducible refine (szNet_off a00 a01 hs w01 _).mono ?_); rintro e w' ⟨rfl, hb⟩; obtain ⟨HB, hz0, hz, hc, hf⟩ := bst (w0 := w) (by go_grown) hb; clear hb; (try simp at hz); (first | ((refine HS.g5 (m := w'.heap.size) ?_ ?_); (focus omega); intro HS) | ((refine HS.g4 (m := w'.heap.size) ?_ ?_); (focus omega); intro HS) | ((refine HS.g3 (m := w'.heap.size) ?_ ?_); (focus omega); intro HS) | ((refine HS.g2 (m := w'.heap.size) ?_ ?_); (focus omega); intro HS) | ((refine HS.g1 (m := w'.heap.size) ?_ ?_); (focus omega); intro HS) | ((refine HS.g0 (m := w'.heap.size) ?_ ?_); (focus omega); intro HS)); have HU := HS; simp only [AllLt] at HU))
    go_ret
    exact ⟨rfl, by (repeat' (first | (with_reducible exact Below.refl _ _) | (with_reducible refine Below.setCell ?_ ?_ _) | (with_reducible refine below_drewN' ?_ _) | (with_reducible refine below_drew' ?_) | (with_reducible refine Below.alloc ?_ ?_ _) | (with_reducible assumption) | go_size))⟩
set_option maxHeartbeats 8000000 in
set_option maxRecDepth 100000 in
theorem law_MeetNets (a00 : Int) (a01 : ByteArray) (a10 : Int) (a11 : ByteArray) (w : World) (hs : a01.size ≤ 1048576) (ht : (a11.size : Int) ≤ 1048576 - (a01.size : Int)) (hB : TB w) (n' : Int) (s' : ByteArray) (v : Bool)
    (hm : ∀ w : World, Calls Tryd.prog 16 #[.agg #[.int .i64 a00, .string a01], .agg #[.int .i64 a10, .string a11]] w fun e w' => e = .returned (.tuple #[.agg #[.int .i64 n', .string s'], .bool v]) ∧ Below w.heap.size w w')
    (hi : ∀ w : World, TB w → Calls Tryd.prog 17 #[.agg #[.int .i64 a00, .string a01], .agg #[.int .i64 a10, .string a11]] w fun e w' => e = .returned (.tuple #[.agg #[.int .i64 n', .string s'], .bool v]) ∧ Below w.heap.size w w') :
    Calls Tryd.prog 4 #[.agg #[.int .i64 a00, .string a01], .agg #[.int .i64 a10, .string a11]] w fun e w' => e = .returned (.bool true) ∧ Below w.heap.size w w' := by
  have HT := hid hB
  have h0 : decide ((1048576 : Int) - (a01.size : Int) < 0) = false := by simp; omega
  have h1 : decide ((1048576 : Int) < (a01.size : Int)) = false := by simp; omega
  have H1 := hid (szNet_on a00 a01 hs)
  have H2 := hid (szNet_at a10 a11 (1048576 - (a01.size : Int)) ht (by omega))
  have h2 : decide ((1048576 : Int) - (a01.size : Int) - (a11.size : Int) < 0) = false := by simp; omega
  have HM := hid hm
  have HI := hid hi
  clear hB hm hi hs ht
  have HB0 := hid (((Below.refl w.heap.size w).alloc (Nat.le_refl _) (.cells #[.int .i64 a00, .string a01] 23)).alloc (by simp) (.cells #[.int .i64 a10, .string a11] 23))
  have HS := AllLt.start w; have hn2 := lt2; have hn3 := lt3; have hn4 := lt4; go_enter Tryd.func4, Tryd.ntmps4
  go_upto_region 8 with (first | (go_at_call 12; (with_reducible refine (H1.out _).mono ?_); rintro e w' ⟨rfl, hb⟩; obtain ⟨HB, hz0, hz, hc, hf⟩ := bst (w0 := w) (by go_grown) hb; clear hb; (try simp at hz); (first | ((refine HS.g5 (m := w'.heap.size) ?_ ?_); (focus omega); intro HS) | ((refine HS.g4 (m := w'.heap.size) ?_ ?_); (focus omega); intro HS) | ((refine HS.g3 (m := w'.heap.size) ?_ ?_); (focus omega); intro HS) | ((refine HS.g2 (m := w'.heap.size) ?_ ?_); (focus omega); intro HS) | ((refine HS.g1 (m := w'.heap.size) ?_ ?_); (focus omega); intro HS) | ((refine HS.g0 (m := w'.heap.size) ?_ ?_); (focus omega); intro HS)); have HU := HS; simp only [AllLt] at HU) | (go_at_call 12; (with_reducible refine (H2.out _).mono ?_); rintro e w' ⟨rfl, hb⟩; obtain ⟨HB, hz0, hz, hc, hf⟩ := bst (w0 := w) (by go_grown) hb; clear hb; (try simp at hz); (first | ((refine HS.g5 (m := w'.heap.size) ?_ ?_); (focus omega); intro HS) | ((refine HS.g4 (m := w'.heap.size) ?_ ?_); (focus omega); intro HS) | ((refine HS.g3 (m := w'.heap.size) ?_ ?_); (focus omega); intro HS) | ((refine HS.g2 (m := w'.heap.size) ?_ ?_); (focus omega); intro HS) | ((refine HS.g1 (m := w'.heap.size) ?_ ?_); (focus omega); intro HS) | ((refine HS.g0 (m := w'.heap.size) ?_ ?_); (focus omega); intro HS)); have HU := HS; simp only [AllLt] at HU))
  have q0 : w'.cell? ⟨w.heap.size, 0, none⟩ = some (.int .i64 a00) := by go_simp
  have q1 : w'.cell? ⟨w.heap.size, 1, none⟩ = some (.string a01) := by go_simp
  have q2 : w'.cell? ⟨w.heap.size + 1, 0, none⟩ = some (.int .i64 a10) := by go_simp
  have q3 : w'.cell? ⟨w.heap.size + 1, 1, none⟩ = some (.string a11) := by go_simp
  have HB1 : Below w.heap.size w w' := by (repeat' (first | (with_reducible exact Below.refl _ _) | (with_reducible refine Below.setCell ?_ ?_ _) | (with_reducible refine below_drewN' ?_ _) | (with_reducible refine below_drew' ?_) | (with_reducible refine Below.alloc ?_ ?_ _) | (with_reducible assumption) | go_size))
  have hl2 : w.heap.size + 1 < w'.heap.size := cell_lt q2
  have hl : w.heap.size < w'.heap.size := by omega
  have HB1 := hid HB1
  clear HU hc hf hz hz0 HB HS
  have HS := AllLt.start w'
  generalize w' = w1 at *
  go_cut [6, 7] (fun s6 s7 wx => ∃ x : Nat, s6 = .pointer (some ⟨x, 0, none⟩) ∧ s7 = .bool v ∧ wx.cell? ⟨x, 0, none⟩ = some (.int .i64 n') ∧ wx.cell? ⟨x, 1, none⟩ = some (.string s') ∧ Below w1.heap.size w1 wx)
  case first =>
    go_region_held3 (fun wx => wx.cell? ⟨w.heap.size, 0, none⟩ = some (.int .i64 a00) ∧ wx.cell? ⟨w.heap.size, 1, none⟩ = some (.string a01) ∧ wx.cell? ⟨w.heap.size + 1, 0, none⟩ = some (.int .i64 a10) ∧ wx.cell? ⟨w.heap.size + 1, 1, none⟩ = some (.string a11)) (first | exact ⟨q0, q1, q2, q3⟩ | exact ⟨(Below.cell (B := w1.heap.size) (w := w1) (p := ⟨w.heap.size, 0, none⟩) (by go_grown) hl).trans q0, (Below.cell (B := w1.heap.size) (w := w1) (p := ⟨w.heap.size, 1, none⟩) (by go_grown) hl).trans q1, (Below.cell (B := w1.heap.size) (w := w1) (p := ⟨w.heap.size + 1, 0, none⟩) (by go_grown) hl2).trans q2, (Below.cell (B := w1.heap.size) (w := w1) (p := ⟨w.heap.size + 1, 1, none⟩) (by go_grown) hl2).trans q3⟩)
      (first
        | (go_at_call 14; (with_reducible refine (toNet_any _ _ _).mono ?_); rintro e w' ⟨rfl, hb⟩; obtain ⟨HB, hz0, hz, hc, hf⟩ := bst (w0 := w1) (by go_grown) hb; clear hb; (try simp at hz); (first | ((refine HS.g5 (m := w'.heap.size) ?_ ?_); (focus omega); intro HS) | ((refine HS.g4 (m := w'.heap.size) ?_ ?_); (focus omega); intro HS) | ((refine HS.g3 (m := w'.heap.size) ?_ ?_); (focus omega); intro HS) | ((refine HS.g2 (m := w'.heap.size) ?_ ?_); (focus omega); intro HS) | ((refine HS.g1 (m := w'.heap.size) ?_ ?_); (focus omega); intro HS) | ((refine HS.g0 (m := w'.heap.size) ?_ ?_); (focus omega); intro HS)); have HU := HS; simp only [AllLt] at HU)
        | (go_at_call 16; (with_reducible refine (HM.out _).mono ?_); rintro e w' ⟨rfl, hb⟩; obtain ⟨HB, hz0, hz, hc, hf⟩ := bst (w0 := w1) (by go_grown) hb; clear hb; (try simp at hz); (first | ((refine HS.g5 (m := w'.heap.size) ?_ ?_); (focus omega); intro HS) | ((refine HS.g4 (m := w'.heap.size) ?_ ?_); (focus omega); intro HS) | ((refine HS.g3 (m := w'.heap.size) ?_ ?_); (focus omega); intro HS) | ((refine HS.g2 (m := w'.heap.size) ?_ ?_); (focus omega); intro HS) | ((refine HS.g1 (m := w'.heap.size) ?_ ?_); (focus omega); intro HS) | ((refine HS.g0 (m := w'.heap.size) ?_ ?_); (focus omega); intro HS)); have HU := HS; simp only [AllLt] at HU)
        | fail)
    all_goals
      go_wp2_with fail
      go_meet
      exact ⟨_, rfl, rfl, by (first | (go_simp; done) | (simp [go_sem, *]; done)), by (first | (go_simp; done) | (simp [go_sem, *]; done)), by (repeat' (first | (with_reducible exact Below.refl _ _) | (with_reducible refine Below.setCell ?_ ?_ _) | (with_reducible refine below_drewN' ?_ _) | (with_reducible refine below_drew' ?_) | (with_reducible refine Below.alloc ?_ ?_ _) | (with_reducible assumption) | go_size))⟩
  case rest =>
    obtain ⟨x, rfl, rfl, cx0, cx1, hBx⟩ := hcut
    rename_i wc
    have hzx := hBx.size
    have p0 := (hBx.cell (p := ⟨w.heap.size, 0, none⟩) hl).trans q0
    have p1 := (hBx.cell (p := ⟨w.heap.size, 1, none⟩) hl).trans q1
    have p2 := (hBx.cell (p := ⟨w.heap.size + 1, 0, none⟩) hl2).trans q2
    have p3 := (hBx.cell (p := ⟨w.heap.size + 1, 1, none⟩) hl2).trans q3
    have HBc := hid (HB1.out.trans (hBx.mono HB1.out.size))
    have hl3 : w.heap.size < wc.heap.size := by omega
    have hl4 : w.heap.size + 1 < wc.heap.size := by omega
    clear q0 q1 q2 q3 hl hl2 hBx hzx HB1 HS
    have HS := AllLt.start wc
    have CX0 := hid cx0
    have CX1 := hid cx1
    have CX0lt : x < wc.heap.size := cell_lt cx0
    clear cx0 cx1
    go_upto_region 9 with fail
    go_cut [8, 9] (fun s8 s9 wx => ∃ (x : Nat) (wd : World), wd = wx ∧ s8 = .pointer (some ⟨x, 0, none⟩) ∧ s9 = .bool v ∧ wx.cell? ⟨x, 0, none⟩ = some (.int .i64 n') ∧ wx.cell? ⟨x, 1, none⟩ = some (.string s') ∧ Below wc.heap.size wc wx)
    case first =>
      go_region_held3 (fun wx => wx.cell? ⟨w.heap.size, 0, none⟩ = some (.int .i64 a00) ∧ wx.cell? ⟨w.heap.size, 1, none⟩ = some (.string a01) ∧ wx.cell? ⟨w.heap.size + 1, 0, none⟩ = some (.int .i64 a10) ∧ wx.cell? ⟨w.heap.size + 1, 1, none⟩ = some (.string a11)) (first | exact ⟨p0, p1, p2, p3⟩ | exact ⟨(Below.cell (B := wc.heap.size) (w := wc) (p := ⟨w.heap.size, 0, none⟩) (by go_grown) hl3).trans p0, (Below.cell (B := wc.heap.size) (w := wc) (p := ⟨w.heap.size, 1, none⟩) (by go_grown) hl3).trans p1, (Below.cell (B := wc.heap.size) (w := wc) (p := ⟨w.heap.size + 1, 0, none⟩) (by go_grown) hl4).trans p2, (Below.cell (B := wc.heap.size) (w := wc) (p := ⟨w.heap.size + 1, 1, none⟩) (by go_grown) hl4).trans p3⟩)
        (first
          | (go_at_call 14; (with_reducible refine (toNet_any _ _ _).mono ?_); rintro e w' ⟨rfl, hb⟩; obtain ⟨HB, hz0, hz, hc, hf⟩ := bst (w0 := wc) (by go_grown) hb; clear hb; (try simp at hz); (first | ((refine HS.g5 (m := w'.heap.size) ?_ ?_); (focus omega); intro HS) | ((refine HS.g4 (m := w'.heap.size) ?_ ?_); (focus omega); intro HS) | ((refine HS.g3 (m := w'.heap.size) ?_ ?_); (focus omega); intro HS) | ((refine HS.g2 (m := w'.heap.size) ?_ ?_); (focus omega); intro HS) | ((refine HS.g1 (m := w'.heap.size) ?_ ?_); (focus omega); intro HS) | ((refine HS.g0 (m := w'.heap.size) ?_ ?_); (focus omega); intro HS)); have HU := HS; simp only [AllLt] at HU)
          | (go_at_call 17; (with_reducible refine (HI.out _ (HT.out.below (HBc.out.trans (Below.mono (show Below wc.heap.size wc _ from by go_grown) HBc.out.size)))).mono ?_); rintro e w' ⟨rfl, hb⟩; obtain ⟨HB, hz0, hz, hc, hf⟩ := bst (w0 := wc) (by go_grown) hb; clear hb; (try simp at hz); (first | ((refine HS.g5 (m := w'.heap.size) ?_ ?_); (focus omega); intro HS) | ((refine HS.g4 (m := w'.heap.size) ?_ ?_); (focus omega); intro HS) | ((refine HS.g3 (m := w'.heap.size) ?_ ?_); (focus omega); intro HS) | ((refine HS.g2 (m := w'.heap.size) ?_ ?_); (focus omega); intro HS) | ((refine HS.g1 (m := w'.heap.size) ?_ ?_); (focus omega); intro HS) | ((refine HS.g0 (m := w'.heap.size) ?_ ?_); (focus omega); intro HS)); have HU := HS; simp only [AllLt] at HU)
          | fail)
      all_goals
        go_wp2_with fail
        go_meet
        exact ⟨_, _, rfl, rfl, rfl, by (first | (go_simp; done) | (simp [go_sem, *]; done)), by (first | (go_simp; done) | (simp [go_sem, *]; done)), by (repeat' (first | (with_reducible exact Below.refl _ _) | (with_reducible refine Below.setCell ?_ ?_ _) | (with_reducible refine below_drewN' ?_ _) | (with_reducible refine below_drew' ?_) | (with_reducible refine Below.alloc ?_ ?_ _) | (with_reducible assumption) | go_size))⟩
    case rest =>
      obtain ⟨y, wd, rfl, rfl, rfl, cy0, cy1, hBy⟩ := hcut
      have cx0 := (hBy.cell (p := ⟨x, 0, none⟩) CX0lt).trans CX0.out
      have cx1 := (hBy.cell (p := ⟨x, 1, none⟩) CX0lt).trans CX1.out
      have HBd := hid (HBc.out.trans (hBy.mono HBc.out.size))
      clear p0 p1 p2 p3 hBy HS
      have HS := AllLt.start wd
      cases v
      all_goals
        go_wp2_with fail
        (with_reducible refine (eqNet_same _ _ _).mono ?_)
        rintro e we ⟨rfl, hb⟩
        have HBe := hid (HBd.out.trans (hb.mono HBd.out.size))
        clear hb
        go_wp2_with fail
        go_ret
        exact ⟨rfl, HBe.out⟩
set_option maxHeartbeats 1000000 in
theorem walk_FnExactMeetNets (a00 : Int) (a01 : ByteArray) (a10 : Int) (a11 : ByteArray) (w : World) (w00 : (Lit.int .i64 a00).wf = true) (w01 : a01.size ≤ maxLen) (w10 : (Lit.int .i64 a10).wf = true) (w11 : a11.size ≤ maxLen) (hB : TB w) :
    Calls Tryd.prog 4 #[.agg #[.int .i64 a00, .string a01], .agg #[.int .i64 a10, .string a11]] w fun e w' => e = .returned (.bool true) ∧ Below w.heap.size w w' := by
  by_cases hs : a01.size ≤ 1048576
  · by_cases ht : (a11.size : Int) ≤ 1048576 - (a01.size : Int)
    · rcases botB_cases a00 a01 a10 a11 with h | ⟨n, R, S, hR, hS, rfl, rfl, rfl, rfl⟩
      · exact law_MeetNets a00 a01 a10 a11 w hs ht hB _ _ _ (fun w => sMeetNets_no _ _ _ _ h w) (fun w hT => iMeetNets_no _ _ _ _ h w hT)
      · exact law_MeetNets _ _ _ _ w hs ht hB _ _ _ (fun w => sMeetNets_yes n R S hR hS w) (fun w hT => iMeetNets_yes n R S hR hS w hT)
    · have h0 : decide ((1048576 : Int) - (a01.size : Int) < 0) = false := by simp; omega
      have h1 : decide ((1048576 : Int) < (a01.size : Int)) = false := by simp; omega
      have H1 := hid (szNet_on a00 a01 hs)
      have H2 := hid (szNet_out a10 a11 (1048576 - (a01.size : Int)) ht w11 (by omega) (by omega))
      have HS := AllLt.start w; have hn2 := lt2; have hn3 := lt3; have hn4 := lt4; go_enter Tryd.func4, Tryd.ntmps4
      go_wp2_with (first | (go_at_call 12; (with_reducible refine (H1.out _).mono ?_); rintro e w' ⟨rfl, hb⟩; obtain ⟨HB, hz0, hz, hc, hf⟩ := bst (w0 := w) (by go_grown) hb; clear hb; (try simp at hz); (first | ((refine HS.g5 (m := w'.heap.size) ?_ ?_); (focus omega); intro HS) | ((refine HS.g4 (m := w'.heap.size) ?_ ?_); (focus omega); intro HS) | ((refine HS.g3 (m := w'.heap.size) ?_ ?_); (focus omega); intro HS) | ((refine HS.g2 (m := w'.heap.size) ?_ ?_); (focus omega); intro HS) | ((refine HS.g1 (m := w'.heap.size) ?_ ?_); (focus omega); intro HS) | ((refine HS.g0 (m := w'.heap.size) ?_ ?_); (focus omega); intro HS)); have HU := HS; simp only [AllLt] at HU) | (go_at_call 12; (with_reducible refine (H2.out _).mono ?_); rintro e w' ⟨rfl, hb⟩; obtain ⟨HB, hz0, hz, hc, hf⟩ := bst (w0 := w) (by go_grown) hb; clear hb; (try simp at hz); (first | ((refine HS.g5 (m := w'.heap.size) ?_ ?_); (focus omega); intro HS) | ((refine HS.g4 (m := w'.heap.size) ?_ ?_); (focus omega); intro HS) | ((refine HS.g3 (m := w'.heap.size) ?_ ?_); (focus omega); intro HS) | ((refine HS.g2 (m := w'.heap.size) ?_ ?_); (focus omega); intro HS) | ((refine HS.g1 (m := w'.heap.size) ?_ ?_); (focus omega); intro HS) | ((refine HS.g0 (m := w'.heap.size) ?_ ?_); (focus omega); intro HS)); have HU := HS; simp only [AllLt] at HU))
      go_ret
      exact ⟨rfl, by (repeat' (first | (with_reducible exact Below.refl _ _) | (with_reducible refine Below.setCell ?_ ?_ _) | (with_reducible refine below_drewN' ?_ _) | (with_reducible refine below_drew' ?_) | (with_reducible refine Below.alloc ?_ ?_ _) | (with_reducible assumption) | go_size))⟩
  · have HS := AllLt.start w; have hn2 := lt2; have hn3 := lt3; have hn4 := lt4; go_enter Tryd.func4, Tryd.ntmps4
    go_wp2_with (first | (go_at_call 12; (with_reducible refine (szNet_off a00 a01 hs w01 _).mono ?_); rintro e w' ⟨rfl, hb⟩; obtain ⟨HB, hz0, hz, hc, hf⟩ := bst (w0 := w) (by go_grown) hb; clear hb; (try simp at hz); (first | ((refine HS.g5 (m := w'.heap.size) ?_ ?_); (focus omega); intro HS) | ((refine HS.g4 (m := w'.heap.size) ?_ ?_); (focus omega); intro HS) | ((refine HS.g3 (m := w'.heap.size) ?_ ?_); (focus omega); intro HS) | ((refine HS.g2 (m := w'.heap.size) ?_ ?_); (focus omega); intro HS) | ((refine HS.g1 (m := w'.heap.size) ?_ ?_); (focus omega); intro HS) | ((refine HS.g0 (m := w'.heap.size) ?_ ?_); (focus omega); intro HS)); have HU := HS; simp only [AllLt] at HU))
    go_ret
    exact ⟨rfl, by (repeat' (first | (with_reducible exact Below.refl _ _) | (with_reducible refine Below.setCell ?_ ?_ _) | (with_reducible refine below_drewN' ?_ _) | (with_reducible refine below_drew' ?_) | (with_reducible refine Below.alloc ?_ ?_ _) | (with_reducible assumption) | go_size))⟩
end Go.Proofs.YtholffjadnaloaaDoor.C
