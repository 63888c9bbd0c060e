/- Composition, by the ends of a third interval: the program's walks. Composition: orders that are in both sets of each place. Composition: what the ends in between leave. Composition of basic relations and of relations: the program's walks. Composition in the model's words, by its table; the exact laws of composed basic relations and relations. -/
import Derived.Test.YtmdgkhebefnfeaaDoorRelU
import Derived.Test.YtmdgkhebefnfeaaDoorCmpM
import Derived.StillTailTactics
import Derived.Test.YtmdgkhebefnfeaaDoorTbl
namespace Go.Proofs.YtmdgkhebefnfeaaDoor.C
section
section
open Go.RowKit
set_option linter.unusedVariables false
set_option linter.unusedSimpArgs false
theorem lt5 (n : Nat) : n < n + 1 + 1 + 1 + 1 + 1 := by omega
theorem lt6 (n : Nat) : n < n + 1 + 1 + 1 + 1 + 1 + 1 := by omega
theorem lt7 (n : Nat) : n < n + 1 + 1 + 1 + 1 + 1 + 1 + 1 := by omega
theorem ne1 (n : Nat) : ¬ n + 1 = n := by omega
theorem ne1' (n : Nat) : ¬ n = n + 1 := by omega
theorem ne2 (n : Nat) : ¬ n + 1 + 1 = n := by omega
theorem ne2' (n : Nat) : ¬ n = n + 1 + 1 := by omega
theorem ne3 (n : Nat) : ¬ n + 1 + 1 + 1 = n := by omega
theorem ne3' (n : Nat) : ¬ n = n + 1 + 1 + 1 := by omega
theorem ne4 (n : Nat) : ¬ n + 1 + 1 + 1 + 1 = n := by omega
theorem ne4' (n : Nat) : ¬ n = n + 1 + 1 + 1 + 1 := by omega
theorem ie0 (a b c d : Int) (w : World) : (Instr.index 164 (.agg #[.int .i64 a, .int .i64 b, .int .i64 c, .int .i64 d]) (.int .i64 0)).run Tryd.prog w = .ok (.int .i64 a) w := by kernel_rfl
theorem ie1 (a b c d : Int) (w : World) : (Instr.index 164 (.agg #[.int .i64 a, .int .i64 b, .int .i64 c, .int .i64 d]) (.int .i64 1)).run Tryd.prog w = .ok (.int .i64 b) w := by kernel_rfl
theorem ie2 (a b c d : Int) (w : World) : (Instr.index 164 (.agg #[.int .i64 a, .int .i64 b, .int .i64 c, .int .i64 d]) (.int .i64 2)).run Tryd.prog w = .ok (.int .i64 c) w := by kernel_rfl
theorem ie3 (a b c d : Int) (w : World) : (Instr.index 164 (.agg #[.int .i64 a, .int .i64 b, .int .i64 c, .int .i64 d]) (.int .i64 3)).run Tryd.prog w = .ok (.int .i64 d) w := by kernel_rfl
set_option maxHeartbeats 2000000 in
set_option maxRecDepth 100000 in
theorem esets_any (a b c d : Int) (w : World) (ha : Ord a) (hb : Ord b) (hc : Ord c) (hd : Ord d) :
    Calls Tryd.prog 133 #[.agg #[.int .i64 a, .int .i64 b, .int .i64 c, .int .i64 d]] w fun e w' => e = .returned (.agg #[.int .i64 a, .int .i64 b, .int .i64 c, .int .i64 d]) ∧ Below w.heap.size w w' := by
  have i0 := ie0
  have i1 := ie1
  have i2 := ie2
  have i3 := ie3
  have hn5 := lt5
  have hn6 := lt6
  have hn7 := lt7
  have m2 := ne2
  have m2' := ne2'
  have m3 := ne3
  have m3' := ne3'
  have m4 := ne4
  have m4' := ne4'
  have HS := AllLt.start w; have hn2 := lt2; have hn3 := lt3; have hn4 := lt4; go_enter Tryd.func133, Tryd.ntmps133
  go_wp2
  refine wp_loop_rounds 5 ?_
  iterate 5
    rw [rounds_succ]
    go_wp2_with (first | (go_at_call 106; (with_reducible refine (ordersOf_new _ _ _ _ (by simp) (by assumption)).mono ?_); rintro e w' ⟨rfl, rfl⟩))
  refine bodyPost_ret (by simp [results, Tryd.results133, go_sem, *]; try rfl) rfl ?_
  exact ⟨rfl, by (repeat' (first | (with_reducible exact Below.refl _ _) | (with_reducible refine Below.setCell ?_ ?_ _) | (with_reducible refine below_drewN' ?_ _) | (with_reducible refine below_drew' ?_) | (with_reducible refine Below.alloc ?_ ?_ _) | (with_reducible assumption) | go_size))⟩
end
section
open Go.RowKit
set_option linter.unusedVariables false
set_option linter.unusedSimpArgs false
set_option maxHeartbeats 2000000 in
set_option maxRecDepth 100000 in
theorem common_any (a b c d p q r s : Int) (w : World) :
    Calls Tryd.prog 134 #[.agg #[.int .i64 a, .int .i64 b, .int .i64 c, .int .i64 d], .agg #[.int .i64 p, .int .i64 q, .int .i64 r, .int .i64 s]] w fun e w' => e = .returned (.agg #[.int .i64 (band a p), .int .i64 (band b q), .int .i64 (band c r), .int .i64 (band d s)]) ∧ Below w.heap.size w w' := by
  have m2 := ne2
  have m2' := ne2'
  have HS := AllLt.start w; have hn2 := lt2; have hn3 := lt3; have hn4 := lt4; go_enter Tryd.func134, Tryd.ntmps134
  go_wp2
  refine wp_loop_rounds 5 ?_
  rw [rounds_succ]
  go_wp2_with fail
  go_region
  go_wp2_with fail
  rw [rounds_succ]
  go_wp2_with fail
  go_region
  go_wp2_with fail
  rw [rounds_succ]
  go_wp2_with fail
  go_region
  go_wp2_with fail
  rw [rounds_succ]
  go_wp2_with fail
  go_region
  go_wp2_with fail
  rw [rounds_succ]
  go_wp2
  refine bodyPost_ret (by simp [results, Tryd.results134, go_sem, *]; try rfl) rfl ?_
  exact ⟨rfl, by (repeat' (first | (with_reducible exact Below.refl _ _) | (with_reducible refine Below.setCell ?_ ?_ _) | (with_reducible refine below_drewN' ?_ _) | (with_reducible refine below_drew' ?_) | (with_reducible refine Below.alloc ?_ ?_ _) | (with_reducible assumption) | go_size))⟩
end
section
open Go.RowKit
set_option linter.unusedVariables false
set_option linter.unusedSimpArgs false
end
section
open Go.RowKit
set_option linter.unusedVariables false
set_option linter.unusedSimpArgs false
theorem keyO (v : Int) (h : (Lit.int .i64 v).wf = true) : Tryd.prog.keyLits 7 69 [.int .i64 v] = some [.int .i64 v] := by
  have e : Tryd.prog.keyLits 7 69 [.int .i64 v] = (if IntKind.i64 = IntKind.i64 ∧ (Lit.int .i64 v).wf = true then some [.int .i64 v] else none) := by kernel_rfl
  rw [e, if_pos ⟨rfl, h⟩]
theorem keyS (a b c d : Int) (ha : (Lit.int .i64 a).wf = true) (hb : (Lit.int .i64 b).wf = true) (hc : (Lit.int .i64 c).wf = true) (hd : (Lit.int .i64 d).wf = true) :
    Tryd.prog.keyLits 8 107 (Value.agg #[.int .i64 a, .int .i64 b, .int .i64 c, .int .i64 d]).cells.toList = some [.int .i64 a, .int .i64 b, .int .i64 c, .int .i64 d] := by
  have e : Tryd.prog.keyLits 8 107 (Value.agg #[.int .i64 a, .int .i64 b, .int .i64 c, .int .i64 d]).cells.toList =
    (([[Value.int .i64 a], [Value.int .i64 b], [Value.int .i64 c], [Value.int .i64 d]].mapM fun l => Tryd.prog.keyLits 7 69 l).map List.flatten) := by kernel_rfl
  rw [e]
  simp [keyO a ha, keyO b hb, keyO c hc, keyO d hd]
theorem run_sets {a b c d a' b' c' d' : Int} (ha : (Lit.int .i64 a).wf = true) (hb : (Lit.int .i64 b).wf = true) (hc : (Lit.int .i64 c).wf = true) (hd : (Lit.int .i64 d).wf = true)
    (ha' : (Lit.int .i64 a').wf = true) (hb' : (Lit.int .i64 b').wf = true) (hc' : (Lit.int .i64 c').wf = true) (hd' : (Lit.int .i64 d').wf = true) (w : World) :
    (Op.equalIn 10000 107 (.agg #[.int .i64 a, .int .i64 b, .int .i64 c, .int .i64 d]) (.agg #[.int .i64 a', .int .i64 b', .int .i64 c', .int .i64 d'])).run Tryd.prog w = .ok (decide (a = a') && decide (b = b') && decide (c = c') && decide (d = d')) w := by
  obtain ⟨r, hr, hi⟩ := run_equalIn_deep (P := Tryd.prog) 9990 10 107 (by kernel_rfl) w 8 8 (.agg #[.int .i64 a, .int .i64 b, .int .i64 c, .int .i64 d]) (.agg #[.int .i64 a', .int .i64 b', .int .i64 c', .int .i64 d'])
    [.int .i64 a, .int .i64 b, .int .i64 c, .int .i64 d] [.int .i64 a', .int .i64 b', .int .i64 c', .int .i64 d'] (by kernel_rfl) (by kernel_rfl) (keyS a b c d ha hb hc hd) (keyS a' b' c' d' ha' hb' hc' hd')
  have e : r = (decide (a = a') && decide (b = b') && decide (c = c') && decide (d = d')) := by
    rw [Bool.eq_iff_iff, hi]
    simp [and_assoc]
  rw [← e]
  exact hr
theorem band_wf (a b : Int) : (Lit.int .i64 (band a b)).wf = true := wf_bits .and .i64 a b
theorem band_hs {x o : Int} (hx : pv x = true) (ho : Ord o) : decide (band o x = o) = hs x o := by
  rcases pv_cases hx with rfl | rfl | rfl | rfl | rfl | rfl | rfl | rfl <;> rcases ho with rfl | rfl | rfl <;> decide +kernel
set_option maxHeartbeats 4000000 in
set_option maxRecDepth 100000 in
theorem allow_any (x0 x1 x2 x3 : Int) (k : Nat) (hk : k < 13) (h0 : pv x0 = true) (h1 : pv x1 = true) (h2 : pv x2 = true) (h3 : pv x3 = true) (w : World) (hT : TB w) :
    Calls Tryd.prog 86 #[.agg #[.int .i64 x0, .int .i64 x1, .int .i64 x2, .int .i64 x3], .int .i64 k] w fun e w' => e = .returned (.bool (alw x0 x1 x2 x3 k)) ∧ Below w.heap.size w w' := by
  have HT := hid hT
  clear hT
  have HE : ∀ (w : World), TB w → Calls Tryd.prog 132 #[.int .i64 k] w fun e w' => e = .returned (.agg #[.int .i64 (e0 k), .int .i64 (e1 k), .int .i64 (e2 k), .int .i64 (e3 k)]) ∧ Below w.heap.size w w' := fun w h => ends_any k hk w h
  have q0 : Ord (e0 k) := ord_Ord _ _
  have q1 : Ord (e1 k) := ord_Ord _ _
  have q2 : Ord (e2 k) := ord_Ord _ _
  have q3 : Ord (e3 k) := ord_Ord _ _
  have HP : Hid (alw x0 x1 x2 x3 k = (decide (band (e0 k) x0 = e0 k) && decide (band (e1 k) x1 = e1 k) && decide (band (e2 k) x2 = e2 k) && decide (band (e3 k) x3 = e3 k))) := hid (by
    rw [band_hs h0 q0, band_hs h1 q1, band_hs h2 q2, band_hs h3 q3]; rfl)
  clear h0 h1 h2 h3
  generalize e0 k = a at *
  generalize e1 k = b at *
  generalize e2 k = c at *
  generalize e3 k = d at *
  have hrun := run_sets (band_wf a x0) (band_wf b x1) (band_wf c x2) (band_wf d x3) (wf_ord q0) (wf_ord q1) (wf_ord q2) (wf_ord q3)
  have HE' := hid HE
  clear HE
  have m2 := ne2
  have m2' := ne2'
  have HS := AllLt.start w; have hn2 := lt2; have hn3 := lt3; have hn4 := lt4; go_enter Tryd.func86, Tryd.ntmps86
  go_wp2_with (first | (go_at_call 132; (with_reducible refine (HE'.out _ (HT.out.below (by go_grown))).mono ?_); rintro e w' ⟨rfl, hb⟩; obtain ⟨HB, hz0, hz, hc, hf⟩ := bst (w0 := w) (by go_grown) hb; clear hb; (try simp at hz); (first | ((refine HS.g5 (m := w'.heap.size) ?_ ?_); (focus omega); intro HS) | ((refine HS.g4 (m := w'.heap.size) ?_ ?_); (focus omega); intro HS) | ((refine HS.g3 (m := w'.heap.size) ?_ ?_); (focus omega); intro HS) | ((refine HS.g2 (m := w'.heap.size) ?_ ?_); (focus omega); intro HS) | ((refine HS.g1 (m := w'.heap.size) ?_ ?_); (focus omega); intro HS) | ((refine HS.g0 (m := w'.heap.size) ?_ ?_); (focus omega); intro HS)); have HU := HS; simp only [AllLt] at HU) | (go_at_call 133; (with_reducible refine (esets_any _ _ _ _ _ q0 q1 q2 q3).mono ?_); rintro e w' ⟨rfl, hb⟩; obtain ⟨HB, hz0, hz, hc, hf⟩ := bst (w0 := w) (by go_grown) hb; clear hb; (try simp at hz); (first | ((refine HS.g5 (m := w'.heap.size) ?_ ?_); (focus omega); intro HS) | ((refine HS.g4 (m := w'.heap.size) ?_ ?_); (focus omega); intro HS) | ((refine HS.g3 (m := w'.heap.size) ?_ ?_); (focus omega); intro HS) | ((refine HS.g2 (m := w'.heap.size) ?_ ?_); (focus omega); intro HS) | ((refine HS.g1 (m := w'.heap.size) ?_ ?_); (focus omega); intro HS) | ((refine HS.g0 (m := w'.heap.size) ?_ ?_); (focus omega); intro HS)); have HU := HS; simp only [AllLt] at HU))
  go_region_held3 (fun wx => wx.cell? ⟨w.heap.size, 0, none⟩ = some (.int .i64 x0) ∧ wx.cell? ⟨w.heap.size, 1, none⟩ = some (.int .i64 x1) ∧ wx.cell? ⟨w.heap.size, 2, none⟩ = some (.int .i64 x2) ∧ wx.cell? ⟨w.heap.size, 3, none⟩ = some (.int .i64 x3) ∧
      wx.cell? ⟨w'.heap.size, 0, none⟩ = some (.int .i64 a) ∧ wx.cell? ⟨w'.heap.size, 1, none⟩ = some (.int .i64 b) ∧ wx.cell? ⟨w'.heap.size, 2, none⟩ = some (.int .i64 c) ∧ wx.cell? ⟨w'.heap.size, 3, none⟩ = some (.int .i64 d)) (go_keep)
    (first | (go_at_call 134; (with_reducible refine (common_any _ _ _ _ _ _ _ _ _).mono ?_); rintro e w' ⟨rfl, hb⟩; obtain ⟨HB, hz0, hz, hc, hf⟩ := bst (w0 := w) (by go_grown) hb; clear hb; (try simp at hz); (first | ((refine HS.g5 (m := w'.heap.size) ?_ ?_); (focus omega); intro HS) | ((refine HS.g4 (m := w'.heap.size) ?_ ?_); (focus omega); intro HS) | ((refine HS.g3 (m := w'.heap.size) ?_ ?_); (focus omega); intro HS) | ((refine HS.g2 (m := w'.heap.size) ?_ ?_); (focus omega); intro HS) | ((refine HS.g1 (m := w'.heap.size) ?_ ?_); (focus omega); intro HS) | ((refine HS.g0 (m := w'.heap.size) ?_ ?_); (focus omega); intro HS)); have HU := HS; simp only [AllLt] at HU))
  all_goals
    go_wp2
    go_ret
    exact ⟨ret_bool (by rw [HP.out]), by (repeat' (first | (with_reducible exact Below.refl _ _) | (with_reducible refine Below.setCell ?_ ?_ _) | (with_reducible refine below_drewN' ?_ _) | (with_reducible refine below_drew' ?_) | (with_reducible refine Below.alloc ?_ ?_ _) | (with_reducible assumption) | go_size))⟩
set_option maxHeartbeats 1000000 in
theorem where_allow (x0 x1 x2 x3 : Int) (h0 : pv x0 = true) (h1 : pv x1 = true) (h2 : pv x2 = true) (h3 : pv x3 = true) (w : World) (hT : TB w) :
    Calls Tryd.prog 84 #[.func (.func 86) #[.agg #[.int .i64 x0, .int .i64 x1, .int .i64 x2, .int .i64 x3]] #[]] w fun e w' => e = .returned (.int .i64 ((whN (alw x0 x1 x2 x3) : Nat) : Int)) ∧ Below w.heap.size w w' := by
  have HT := hid hT
  clear hT
  have HS := AllLt.start w; go_enter Tryd.func84, Tryd.ntmps84
  go_wp2
  go_loopw [3, 5] (fun acc v wr => ∃ k : Nat, k ≤ 13 ∧ v = .int .i64 k ∧ acc = .int .i64 ((whF (alw x0 x1 x2 x3) k : Nat) : Int) ∧ Hid (Below w.heap.size w wr)) (fun _ v _ => 13 - (intOf v).toNat)
  case atStart => exact ⟨0, by omega, rfl, rfl, hid (Below.refl _ _)⟩
  case round =>
    obtain ⟨k, hk, rfl, rfl, HB⟩ := hrel
    clear HS
    by_cases h13 : k < 13
    · have hdi : decide ((k : Int) < 13) = true := by simp; omega
      cases hq : alw x0 x1 x2 x3 k
      · have HF := hid (whF_miss hq)
        have HQ := hid hq
        clear hq
        go_wp2_with (first | (go_at_call 86; (with_reducible refine (allow_any x0 x1 x2 x3 k h13 h0 h1 h2 h3 _ (HT.out.below HB.out)).mono ?_); rintro e w' ⟨rfl, hb⟩; rw [HQ.out]))
        go_roundw
        case rel => exact ⟨k + 1, by omega, by go_num, by rw [HF.out], hid (HB.out.trans (hb.mono HB.out.size))⟩
        case measure => simp [intOf]; omega
      · have HF := hid ((i64_or _ _ (whF_lt (p := alw x0 x1 x2 x3) hk) (pow_lt h13)).trans (congrArg _ (whF_hit hq).symm))
        have HQ := hid hq
        clear hq
        go_wp2_with (first | (go_at_call 86; (with_reducible refine (allow_any x0 x1 x2 x3 k h13 h0 h1 h2 h3 _ (HT.out.below HB.out)).mono ?_); rintro e w' ⟨rfl, hb⟩; rw [HQ.out]) | (go_at_call 131; (with_reducible refine (relationOf_any k h13 _).mono ?_); rintro e w' ⟨rfl, rfl⟩))
        go_roundw
        case rel => exact ⟨k + 1, by omega, by go_num, ret_val HF.out, hid (HB.out.trans (hb.mono HB.out.size))⟩
        case measure => simp [intOf]; omega
    · obtain rfl : k = 13 := by omega
      have hdi : decide (((13 : Nat) : Int) < 13) = false := by simp
      go_wp2
      go_ret
      exact ⟨rfl, HB.out⟩
end
end
section
open Go.RowKit
set_option linter.unusedVariables false
set_option linter.unusedSimpArgs false
end
end Go.Proofs.YtmdgkhebefnfeaaDoor.C
