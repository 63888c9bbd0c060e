/- Valid networks and their relations: the exact laws. Relations of two nodes, put and limited: the exact laws. In how many ways one basic relation can be chosen for each pair: the exact law. -/
import Derived.Test.YtnogdjmciekieabDoorNetJt
namespace Go.Proofs.YtnogdjmciekieabDoor.C
section
open Go.RowKit
set_option linter.unusedVariables false
set_option linter.unusedSimpArgs false
theorem networkOf_no (z : Int) (s : ByteArray) (h : NV z s = false) (w : World) (hT : TB w) :
    Calls Tryd.prog 36 #[.agg #[.int .i64 z, .string s]] w fun e w' => e = .returned (.tuple #[.agg (netV 0 fun _ _ => 0), .bool false]) ∧ Below w.heap.size w w' := by
  by_cases hz : 1 ≤ z ∧ z ≤ 6
  · obtain ⟨n, rfl⟩ : ∃ n : Nat, z = n := ⟨z.toNat, by omega⟩
    refine (networkOf_some n (by omega) (by omega) s w hT).mono fun e w' h2 => ?_
    rcases h2.1 with ⟨_, h3⟩ | ⟨h3, _⟩
    · rw [h] at h3; cases h3
    · exact ⟨h3, h2.2⟩
  · exact networkOf_size z s hz w
theorem networkOf_yes (n : Nat) (R : Nat → Nat → Nat) (h : OkR n R) (w : World) (hT : TB w) :
    Calls Tryd.prog 36 #[.agg #[.int .i64 n, .string (netS n R)]] w fun e w' => e = .returned (.tuple #[.agg (netV n R), .bool true]) ∧ Below w.heap.size w w' := by
  refine (networkOf_some n h.pos h.le (netS n R) w hT).mono fun e w' h2 => ?_
  rcases h2.1 with ⟨h3, _⟩ | ⟨_, h3⟩
  · rw [mx_net h] at h3; exact ⟨h3, h2.2⟩
  · rw [nv_net h] at h3; cases h3
set_option maxHeartbeats 1000000 in
theorem iNetValid_any (z : Int) (s : ByteArray) (w : World) (hT : TB w) :
    Calls Tryd.prog 19 #[.agg #[.int .i64 z, .string s]] w fun e w' => e = .returned (.bool (NV z s)) ∧ Below w.heap.size w w' := by
  have HT := hid (hT.below ((Below.refl w.heap.size w).alloc (Nat.le_refl _) (.cells #[.int .i64 z, .string s] 24)))
  clear hT
  rcases nv_cases z s with h | ⟨n, R, hR, rfl, rfl⟩
  · have HNV := hid h
    clear h
    have HS := AllLt.start w; go_enter Tryd.func19, Tryd.ntmps19
    go_wp2_with fail
    (with_reducible refine (networkOf_no z s HNV.out _ HT.out).mono ?_)
    rintro e w1 ⟨rfl, hb⟩
    go_wp2_with (first | refine al_net rfl rfl ?_ | refine st_net rfl _ _ rfl rfl rfl (NB.made w1 0 fun _ _ => 0) ?_)
    go_ret
    exact ⟨ret_bool HNV.out.symm, below_setRow ((((Below.refl _ _).alloc (Nat.le_refl _) _).trans (hb.mono (by simp))).alloc (by have := hb.size; simp at this; omega) _) (by have := hb.size; simp at this; omega) _⟩
  · have HNV := hid (nv_net hR)
    have HS := AllLt.start w; go_enter Tryd.func19, Tryd.ntmps19
    go_wp2_with fail
    (with_reducible refine (networkOf_yes n R hR _ HT.out).mono ?_)
    rintro e w1 ⟨rfl, hb⟩
    go_wp2_with (first | refine al_net rfl rfl ?_ | refine st_net rfl _ _ rfl rfl rfl (NB.made w1 0 fun _ _ => 0) ?_)
    go_ret
    exact ⟨ret_bool HNV.out.symm, below_setRow ((((Below.refl _ _).alloc (Nat.le_refl _) _).trans (hb.mono (by simp))).alloc (by have := hb.size; simp at this; omega) _) (by have := hb.size; simp at this; omega) _⟩
def hasB (n : Int) (i : Int) : Bool := btw 0 i (n - 1)
theorem hasB_in {n i : Nat} (h : i < n) : hasB n i = true := by simp [hasB, btw]; omega
theorem hasB_cases (n : Nat) (i : Int) : hasB n i = false ∨ ∃ k : Nat, k < n ∧ i = k := by
  cases h : hasB n i
  · exact .inl rfl
  · right
    simp [hasB, btw] at h
    exact ⟨i.toNat, by omega, by omega⟩
/-- the relation of two nodes, -1 if there is none -/
noncomputable def rinI (z : Int) (s : ByteArray) (i k : Int) : Int := if NV z s && hasB z i && hasB z k then (mx z.toNat s i.toNat k.toNat : Nat) else -1
theorem rinI_no {z : Int} {s : ByteArray} (i k : Int) (h : NV z s = false) : rinI z s i k = -1 := by simp [rinI, h]
theorem rinI_i {z : Int} {s : ByteArray} {i : Int} (k : Int) (h : hasB z i = false) : rinI z s i k = -1 := by simp [rinI, h]
theorem rinI_k {z : Int} {s : ByteArray} {k : Int} (i : Int) (h : hasB z k = false) : rinI z s i k = -1 := by simp [rinI, h]
theorem rinI_in {n : Nat} {R : Nat → Nat → Nat} (h : OkR n R) {i k : Nat} (hi : i < n) (hk : k < n) : rinI n (netS n R) i k = (R i k : Nat) := by
  simp [rinI, nv_net h, hasB_in hi, hasB_in hk, mx_net h]
theorem nhas_any (n : Nat) (i : Int) (w : World) :
    Calls Tryd.prog 37 #[.agg #[.int .i64 n], .int .i64 i] w fun e w' => e = .returned (.bool (hasB n i)) ∧ Below w.heap.size w w' := by
  by_cases h0 : 0 ≤ i
  · by_cases h1 : i < (n : Int)
    · have HR := hid (show hasB n i = true by simp [hasB, btw]; omega)
      have HS := AllLt.start w; go_enter Tryd.func37, Tryd.ntmps37
      go_wp2
      go_ret
      exact ⟨by rw [HR.out]; first | rfl | simp [h1], by (repeat' (first | (with_reducible exact Below.refl _ _) | (with_reducible refine Below.setCell ?_ ?_ _) | (with_reducible refine below_drewN' ?_ _) | (with_reducible refine below_drew' ?_) | (with_reducible refine Below.alloc ?_ ?_ _) | (with_reducible assumption) | go_size))⟩
    · have HR := hid (show hasB n i = false by simp [hasB, btw]; omega)
      have h2 : decide (i < (n : Int)) = false := by simp; omega
      have HS := AllLt.start w; go_enter Tryd.func37, Tryd.ntmps37
      go_wp2
      go_ret
      exact ⟨by rw [HR.out]; first | rfl | simp [h1], by (repeat' (first | (with_reducible exact Below.refl _ _) | (with_reducible refine Below.setCell ?_ ?_ _) | (with_reducible refine below_drewN' ?_ _) | (with_reducible refine below_drew' ?_) | (with_reducible refine Below.alloc ?_ ?_ _) | (with_reducible assumption) | go_size))⟩
  · have HR := hid (show hasB n i = false by simp [hasB, btw]; omega)
    have h2 : decide (0 ≤ i) = false := by simp; omega
    have HS := AllLt.start w; go_enter Tryd.func37, Tryd.ntmps37
    go_wp2
    go_ret
    exact ⟨by rw [HR.out]; first | rfl | simp [h0], by (repeat' (first | (with_reducible exact Below.refl _ _) | (with_reducible refine Below.setCell ?_ ?_ _) | (with_reducible refine below_drewN' ?_ _) | (with_reducible refine below_drew' ?_) | (with_reducible refine Below.alloc ?_ ?_ _) | (with_reducible assumption) | go_size))⟩
set_option maxHeartbeats 2000000 in
theorem iRelIn_any (z : Int) (s : ByteArray) (i k : Int) (w : World) (hT : TB w) :
    Calls Tryd.prog 8 #[.agg #[.int .i64 z, .string s], .int .i64 i, .int .i64 k] w fun e w' => e = .returned (.int .i64 (rinI z s i k)) ∧ Below w.heap.size w w' := by
  have HT := hid (hT.below ((Below.refl w.heap.size w).alloc (Nat.le_refl _) (.cells #[.int .i64 z, .string s] 24)))
  clear hT
  rcases nv_cases z s with h | ⟨n, R, hR, rfl, rfl⟩
  · have HNV := hid h
    clear h
    have HS := AllLt.start w; go_enter Tryd.func8, Tryd.ntmps8
    go_wp2_with fail
    (with_reducible refine (networkOf_no z s HNV.out _ HT.out).mono ?_)
    rintro e w1 ⟨rfl, hb⟩
    go_upto_region 2 with (first | refine al_net rfl rfl ?_ | refine st_net rfl _ _ rfl rfl rfl (NB.made w1 0 fun _ _ => 0) ?_)
    go_wp2
    go_ret
    exact ⟨ret_int (rinI_no i k HNV.out).symm, below_setRow ((((Below.refl _ _).alloc (Nat.le_refl _) _).trans (hb.mono (by simp))).alloc (by have := hb.size; simp at this; omega) _) (by have := hb.size; simp at this; omega) _⟩
  · rcases hasB_cases n i with hi | ⟨i, hi, rfl⟩
    all_goals
      have HF := hid fld1
      have HN := hid (networkOf_yes n R hR)
      have HS := AllLt.start w; go_enter Tryd.func8, Tryd.ntmps8
      go_wp2_with fail
      (with_reducible refine (HN.out _ HT.out).mono ?_)
      rintro e w1 ⟨rfl, hb⟩
      have HB0 := hid (below_setRow ((((Below.refl w.heap.size w).alloc (Nat.le_refl _) (.cells #[.int .i64 (n : Int), .string (netS n R)] 24)).trans (hb.mono (by simp))).alloc (by have := hb.size; simp at this; omega) (.cells (netV 0 fun _ _ => 0) 63)) (show w.heap.size ≤ w1.heap.size by have := hb.size; simp at this; omega) (netV n R))
      have HN2 := hid ((NB.made w1 0 fun _ _ => 0).row n R)
      clear hb
      go_upto_region 2 with (first | refine al_net rfl rfl ?_ | refine st_net rfl _ _ rfl rfl rfl (NB.made w1 0 fun _ _ => 0) ?_)
      generalize (w1.alloc (.cells (netV 0 fun _ _ => 0) 63)).setRow w1.heap.size (netV n R) = w2 at *
      have q0 := HN2.out.cell0
    · have HI := hid hi
      clear hi
      go_wp2_with (first | (go_at_call 37; (with_reducible refine (nhas_any n i _).mono ?_); rintro e w' ⟨rfl, hb⟩; rw [HI.out]))
      go_ret
      exact ⟨ret_int (rinI_i k HI.out).symm, HB0.out.trans (hb.mono HB0.out.size)⟩
    · have HI := hid (hasB_in hi)
      rcases hasB_cases n k with hk | ⟨k, hk, rfl⟩
      · have HK := hid hk
        clear hk
        go_upto_region 3 with (first | (go_at_call 37; (with_reducible refine (nhas_any n i _).mono ?_); rintro e w3 ⟨rfl, hb⟩; rw [HI.out]; have q1 := (HN2.out.below' hb).cell0; have HB3 := hid (HB0.out.trans (hb.mono HB0.out.size)); clear hb) | (go_at_call 37; (with_reducible refine (nhas_any n k _).mono ?_); rintro e w4 ⟨rfl, hb⟩; rw [HK.out]))
        go_wp2
        go_ret
        exact ⟨ret_int (rinI_k _ HK.out).symm, HB3.out.trans (hb.mono HB3.out.size)⟩
      · have HK := hid (hasB_in hk)
        by_cases e : i = k
        · subst e
          go_upto_region 4 with (first | (go_at_call 37; (with_reducible refine (nhas_any n i w2).mono ?_); rintro e w3 ⟨rfl, hb⟩; rw [HI.out]; have HN3 := hid (HN2.out.below' hb); have q1 := HN3.out.cell0; have HB3 := hid (HB0.out.trans (hb.mono HB0.out.size)); clear hb) | (go_at_call 37; (with_reducible refine (nhas_any n i _).mono ?_); rintro e w4 ⟨rfl, hb⟩; rw [HI.out]; have HN4 := hid (HN3.out.below' hb); have HB4 := hid (HB3.out.trans (hb.mono HB3.out.size)); clear hb))
          have hfd := HF.out
          go_wp2_with (first | refine ld_net rfl _ rfl rfl HN4.out ?_ | (go_at_call 38; (with_reducible refine (edge_any n R i i (by have := hR.le; omega) (by have := hR.le; omega) _).mono ?_); rintro e w5 ⟨rfl, hb⟩))
          go_ret
          exact ⟨ret_int (rinI_in hR hi hi).symm, HB4.out.trans (hb.mono HB4.out.size)⟩
        · have HE := hid e
          clear e
          go_upto_region 4 with (first | (go_at_call 37; (with_reducible refine (nhas_any n i w2).mono ?_); rintro e w3 ⟨rfl, hb⟩; rw [HI.out]; have HN3 := hid (HN2.out.below' hb); have q1 := HN3.out.cell0; have HB3 := hid (HB0.out.trans (hb.mono HB0.out.size)); clear hb) | (go_at_call 37; (with_reducible refine (nhas_any n k _).mono ?_); rintro e w4 ⟨rfl, hb⟩; rw [HK.out]; have HN4 := hid (HN3.out.below' hb); have HB4 := hid (HB3.out.trans (hb.mono HB3.out.size)); clear hb))
          have hfd := HF.out
          go_wp2_with (first | refine ld_net rfl _ rfl rfl HN4.out ?_ | (go_at_call 38; (with_reducible refine (edge_any n R i k (by have := hR.le; omega) (by have := hR.le; omega) _).mono ?_); rintro e w5 ⟨rfl, hb⟩))
          go_ret
          exact ⟨ret_int (rinI_in hR hi hk).symm, HB4.out.trans (hb.mono HB4.out.size)⟩
end
section
open Go.RowKit
set_option linter.unusedVariables false
set_option linter.unusedSimpArgs false
noncomputable def nodB (z : Int) (s : ByteArray) (i k : Int) : Bool := NV z s && hasB z i && hasB z k
theorem l5Nodes_any (z : Int) (s : ByteArray) (i k : Int) (w : World) :
    Calls Tryd.prog 39 #[.agg #[.int .i64 z, .string s], .int .i64 i, .int .i64 k] w fun e w' => e = .returned (.bool (nodB z s i k)) ∧ Below w.heap.size w w' := by
  rcases nv_cases z s with h | ⟨n, R, hR, rfl, rfl⟩
  · have HNV := hid h
    have HR := hid (show nodB z s i k = false by simp [nodB, h])
    clear h
    have HS := AllLt.start w; have hn2 := lt2; have hn3 := lt3; have hn4 := lt4; go_enter Tryd.func39, Tryd.ntmps39
    go_wp2_with (first | (go_at_call 80; (with_reducible refine (sNetValid_any z s _).mono ?_); rintro e w' ⟨rfl, hb⟩; obtain ⟨HB, hz0, hz, hc, hf⟩ := bst (w0 := w) (by go_grown) hb; clear hb; (try simp at hz); (first | ((refine HS.g5 (m := w'.heap.size) ?_ ?_); (focus omega); intro HS) | ((refine HS.g4 (m := w'.heap.size) ?_ ?_); (focus omega); intro HS) | ((refine HS.g3 (m := w'.heap.size) ?_ ?_); (focus omega); intro HS) | ((refine HS.g2 (m := w'.heap.size) ?_ ?_); (focus omega); intro HS) | ((refine HS.g1 (m := w'.heap.size) ?_ ?_); (focus omega); intro HS) | ((refine HS.g0 (m := w'.heap.size) ?_ ?_); (focus omega); intro HS)); have HU := HS; simp only [AllLt] at HU; rw [HNV.out]))
    go_ret
    exact ⟨ret_bool HR.out.symm, by (repeat' (first | (with_reducible exact Below.refl _ _) | (with_reducible refine Below.setCell ?_ ?_ _) | (with_reducible refine below_drewN' ?_ _) | (with_reducible refine below_drew' ?_) | (with_reducible refine Below.alloc ?_ ?_ _) | (with_reducible assumption) | go_size))⟩
  · have HNV := hid (nv_net hR)
    have hn1 : (1 : Int) ≤ (n : Int) := by have := hR.pos; omega
    have hn6 : (n : Int) ≤ 6 := by have := hR.le; omega
    cases hi : btw 0 i ((n : Int) - 1)
    · have HI := hid hi
      have HR := hid (show nodB n (netS n R) i k = false by simp [nodB, hasB, hi])
      clear hi
      have HS := AllLt.start w; have hn2 := lt2; have hn3 := lt3; have hn4 := lt4; go_enter Tryd.func39, Tryd.ntmps39
      go_wp2_with (first | (go_at_call 80; (with_reducible refine (sNetValid_any _ _ _).mono ?_); rintro e w' ⟨rfl, hb⟩; obtain ⟨HB, hz0, hz, hc, hf⟩ := bst (w0 := w) (by go_grown) hb; clear hb; (try simp at hz); (first | ((refine HS.g5 (m := w'.heap.size) ?_ ?_); (focus omega); intro HS) | ((refine HS.g4 (m := w'.heap.size) ?_ ?_); (focus omega); intro HS) | ((refine HS.g3 (m := w'.heap.size) ?_ ?_); (focus omega); intro HS) | ((refine HS.g2 (m := w'.heap.size) ?_ ?_); (focus omega); intro HS) | ((refine HS.g1 (m := w'.heap.size) ?_ ?_); (focus omega); intro HS) | ((refine HS.g0 (m := w'.heap.size) ?_ ?_); (focus omega); intro HS)); have HU := HS; simp only [AllLt] at HU; rw [HNV.out]) | (go_at_call 61; (with_reducible refine (l1In_any i 0 _ _).mono ?_); rintro e w' ⟨rfl, rfl⟩; rw [HI.out]))
      go_ret
      exact ⟨ret_bool HR.out.symm, by (repeat' (first | (with_reducible exact Below.refl _ _) | (with_reducible refine Below.setCell ?_ ?_ _) | (with_reducible refine below_drewN' ?_ _) | (with_reducible refine below_drew' ?_) | (with_reducible refine Below.alloc ?_ ?_ _) | (with_reducible assumption) | go_size))⟩
    · cases hk : btw 0 k ((n : Int) - 1)
      · have HI := hid hi
        have HK := hid hk
        have HR := hid (show nodB n (netS n R) i k = false by simp [nodB, hasB, hk])
        have hne : ¬ i = k := fun e => by rw [e, hk] at hi; cases hi
        clear hi hk
        have HS := AllLt.start w; have hn2 := lt2; have hn3 := lt3; have hn4 := lt4; go_enter Tryd.func39, Tryd.ntmps39
        go_wp2_with (first | (go_at_call 80; (with_reducible refine (sNetValid_any _ _ _).mono ?_); rintro e w' ⟨rfl, hb⟩; obtain ⟨HB, hz0, hz, hc, hf⟩ := bst (w0 := w) (by go_grown) hb; clear hb; (try simp at hz); (first | ((refine HS.g5 (m := w'.heap.size) ?_ ?_); (focus omega); intro HS) | ((refine HS.g4 (m := w'.heap.size) ?_ ?_); (focus omega); intro HS) | ((refine HS.g3 (m := w'.heap.size) ?_ ?_); (focus omega); intro HS) | ((refine HS.g2 (m := w'.heap.size) ?_ ?_); (focus omega); intro HS) | ((refine HS.g1 (m := w'.heap.size) ?_ ?_); (focus omega); intro HS) | ((refine HS.g0 (m := w'.heap.size) ?_ ?_); (focus omega); intro HS)); have HU := HS; simp only [AllLt] at HU; rw [HNV.out]) | (go_at_call 61; (with_reducible refine (l1In_any i 0 _ _).mono ?_); rintro e w' ⟨rfl, rfl⟩; rw [HI.out]) | (go_at_call 61; (with_reducible refine (l1In_any k 0 _ _).mono ?_); rintro e w' ⟨rfl, rfl⟩; rw [HK.out]))
        go_ret
        exact ⟨ret_bool HR.out.symm, by (repeat' (first | (with_reducible exact Below.refl _ _) | (with_reducible refine Below.setCell ?_ ?_ _) | (with_reducible refine below_drewN' ?_ _) | (with_reducible refine below_drew' ?_) | (with_reducible refine Below.alloc ?_ ?_ _) | (with_reducible assumption) | go_size))⟩
      · have HR := hid (show nodB n (netS n R) i k = true by simp [nodB, hasB, hi, hk, nv_net hR])
        by_cases e : i = k
        · subst e
          have HI := hid hi
          clear hi hk
          have HS := AllLt.start w; have hn2 := lt2; have hn3 := lt3; have hn4 := lt4; go_enter Tryd.func39, Tryd.ntmps39
          go_wp2_with (first | (go_at_call 80; (with_reducible refine (sNetValid_any _ _ _).mono ?_); rintro e w' ⟨rfl, hb⟩; obtain ⟨HB, hz0, hz, hc, hf⟩ := bst (w0 := w) (by go_grown) hb; clear hb; (try simp at hz); (first | ((refine HS.g5 (m := w'.heap.size) ?_ ?_); (focus omega); intro HS) | ((refine HS.g4 (m := w'.heap.size) ?_ ?_); (focus omega); intro HS) | ((refine HS.g3 (m := w'.heap.size) ?_ ?_); (focus omega); intro HS) | ((refine HS.g2 (m := w'.heap.size) ?_ ?_); (focus omega); intro HS) | ((refine HS.g1 (m := w'.heap.size) ?_ ?_); (focus omega); intro HS) | ((refine HS.g0 (m := w'.heap.size) ?_ ?_); (focus omega); intro HS)); have HU := HS; simp only [AllLt] at HU; rw [HNV.out]) | (go_at_call 61; (with_reducible refine (l1In_any i 0 _ _).mono ?_); rintro e w' ⟨rfl, rfl⟩; rw [HI.out]))
          go_ret
          exact ⟨ret_bool HR.out.symm, by (repeat' (first | (with_reducible exact Below.refl _ _) | (with_reducible refine Below.setCell ?_ ?_ _) | (with_reducible refine below_drewN' ?_ _) | (with_reducible refine below_drew' ?_) | (with_reducible refine Below.alloc ?_ ?_ _) | (with_reducible assumption) | go_size))⟩
        · have HI := hid hi
          have HK := hid hk
          clear hi hk
          have HS := AllLt.start w; have hn2 := lt2; have hn3 := lt3; have hn4 := lt4; go_enter Tryd.func39, Tryd.ntmps39
          go_wp2_with (first | (go_at_call 80; (with_reducible refine (sNetValid_any _ _ _).mono ?_); rintro e w' ⟨rfl, hb⟩; obtain ⟨HB, hz0, hz, hc, hf⟩ := bst (w0 := w) (by go_grown) hb; clear hb; (try simp at hz); (first | ((refine HS.g5 (m := w'.heap.size) ?_ ?_); (focus omega); intro HS) | ((refine HS.g4 (m := w'.heap.size) ?_ ?_); (focus omega); intro HS) | ((refine HS.g3 (m := w'.heap.size) ?_ ?_); (focus omega); intro HS) | ((refine HS.g2 (m := w'.heap.size) ?_ ?_); (focus omega); intro HS) | ((refine HS.g1 (m := w'.heap.size) ?_ ?_); (focus omega); intro HS) | ((refine HS.g0 (m := w'.heap.size) ?_ ?_); (focus omega); intro HS)); have HU := HS; simp only [AllLt] at HU; rw [HNV.out]) | (go_at_call 61; (with_reducible refine (l1In_any i 0 _ _).mono ?_); rintro e w' ⟨rfl, rfl⟩; rw [HI.out]) | (go_at_call 61; (with_reducible refine (l1In_any k 0 _ _).mono ?_); rintro e w' ⟨rfl, rfl⟩; rw [HK.out]))
          go_ret
          exact ⟨ret_bool HR.out.symm, by (repeat' (first | (with_reducible exact Below.refl _ _) | (with_reducible refine Below.setCell ?_ ?_ _) | (with_reducible refine below_drewN' ?_ _) | (with_reducible refine below_drew' ?_) | (with_reducible refine Below.alloc ?_ ?_ _) | (with_reducible assumption) | go_size))⟩
theorem nodB_cases (z : Int) (s : ByteArray) (i k : Int) : nodB z s i k = false ∨ ∃ (n : Nat) (R : Nat → Nat → Nat) (a b : Nat), OkR n R ∧ a < n ∧ b < n ∧ z = n ∧ s = netS n R ∧ i = a ∧ k = b := by
  cases h : nodB z s i k
  · exact .inl rfl
  · right
    unfold nodB at h
    rw [Bool.and_eq_true, Bool.and_eq_true] at h
    obtain ⟨⟨h1, h2⟩, h3⟩ := h
    obtain ⟨n, R, hR, rfl, rfl⟩ := nv_iff.1 h1
    rcases hasB_cases n i with hi | ⟨a, ha, rfl⟩
    · rw [hi] at h2; cases h2
    · rcases hasB_cases n k with hk | ⟨b, hb, rfl⟩
      · rw [hk] at h3; cases h3
      · exact ⟨n, R, a, b, hR, ha, hb, rfl, rfl, rfl, rfl⟩
theorem nodB_in {n : Nat} {R : Nat → Nat → Nat} (h : OkR n R) {i k : Nat} (hi : i < n) (hk : k < n) : nodB n (netS n R) i k = true := by
  simp [nodB, nv_net h, hasB_in hi, hasB_in hk]
theorem rinI_off {z : Int} {s : ByteArray} {i k : Int} (h : nodB z s i k = false) : rinI z s i k = -1 := by
  unfold nodB at h
  simp [rinI, h]
set_option maxHeartbeats 1000000 in
theorem sRelIn_any (z : Int) (s : ByteArray) (i k : Int) (w : World) :
    Calls Tryd.prog 9 #[.agg #[.int .i64 z, .string s], .int .i64 i, .int .i64 k] w fun e w' => e = .returned (.int .i64 (rinI z s i k)) ∧ Below w.heap.size w w' := by
  rcases nodB_cases z s i k with h | ⟨n, R, i, k, hR, hi, hk, rfl, rfl, rfl, rfl⟩
  · have HR := hid (rinI_off h)
    have HN := hid h
    clear h
    have HS := AllLt.start w; have hn2 := lt2; have hn3 := lt3; have hn4 := lt4; go_enter Tryd.func9, Tryd.ntmps9
    go_wp2_with (first | (go_at_call 39; (with_reducible refine (l5Nodes_any z s i k _).mono ?_); rintro e w' ⟨rfl, hb⟩; obtain ⟨HB, hz0, hz, hc, hf⟩ := bst (w0 := w) (by go_grown) hb; clear hb; (try simp at hz); (first | ((refine HS.g5 (m := w'.heap.size) ?_ ?_); (focus omega); intro HS) | ((refine HS.g4 (m := w'.heap.size) ?_ ?_); (focus omega); intro HS) | ((refine HS.g3 (m := w'.heap.size) ?_ ?_); (focus omega); intro HS) | ((refine HS.g2 (m := w'.heap.size) ?_ ?_); (focus omega); intro HS) | ((refine HS.g1 (m := w'.heap.size) ?_ ?_); (focus omega); intro HS) | ((refine HS.g0 (m := w'.heap.size) ?_ ?_); (focus omega); intro HS)); have HU := HS; simp only [AllLt] at HU; rw [HN.out]))
    go_ret
    exact ⟨ret_int HR.out.symm, by (repeat' (first | (with_reducible exact Below.refl _ _) | (with_reducible refine Below.setCell ?_ ?_ _) | (with_reducible refine below_drewN' ?_ _) | (with_reducible refine below_drew' ?_) | (with_reducible refine Below.alloc ?_ ?_ _) | (with_reducible assumption) | go_size))⟩
  · have HN := hid (nodB_in hR hi hk)
    have HR := hid (rinI_in hR hi hk)
    have hlt := at_lt hi hk
    have hn36 : n * n ≤ 36 := Nat.mul_le_mul hR.le hR.le
    have hsz := netS_size n R
    obtain ⟨x, hx⟩ : ∃ x : Nat, x = i * n := ⟨_, rfl⟩
    have hmul : (i : Int) * (n : Int) = (x : Int) := by rw [hx]; push_cast; rfl
    have hx36 : x + k < 36 := by rw [hx]; omega
    have hxs : 4 * (x + k) + 4 ≤ (netS n R).size := by rw [hsz, hx]; omega
    have HD := hid (show nb (dgs (netS n R) (x + k)) = (R i k : Nat) by rw [hx, dgs_at n R hi hk]; exact nb_dig (by have := hR.lt i k; omega))
    have HD4 := hid (show (dgs (netS n R) (x + k)).size = 4 by rw [hx, dgs_at n R hi hk]; rfl)
    clear hx hlt hn36 hsz
    generalize netS n R = s at *
    have hsl := slice_at s x k (by omega)
    have hse := ext_at s x k
    have b0 : (0 : Int) ≤ 4 * ((x : Int) + (k : Int)) := by omega
    have b1 : 4 * ((x : Int) + (k : Int)) ≤ 4 * ((x : Int) + (k : Int)) + 4 := by omega
    have b2 : 4 * ((x : Int) + (k : Int)) + 4 ≤ (s.size : Int) := by omega
    have hw4 : IntKind.i64.wrap (4 * ((x : Int) + (k : Int)) + 4) = 4 * ((x : Int) + (k : Int)) + 4 := IntWalk.i64_in _ (by omega)
    have HS := AllLt.start w; have hn2 := lt2; have hn3 := lt3; have hn4 := lt4; go_enter Tryd.func9, Tryd.ntmps9
    go_wp2_with (first | (go_at_call 39; (with_reducible refine (l5Nodes_any _ _ _ _ _).mono ?_); rintro e w' ⟨rfl, hb⟩; obtain ⟨HB, hz0, hz, hc, hf⟩ := bst (w0 := w) (by go_grown) hb; clear hb; (try simp at hz); (first | ((refine HS.g5 (m := w'.heap.size) ?_ ?_); (focus omega); intro HS) | ((refine HS.g4 (m := w'.heap.size) ?_ ?_); (focus omega); intro HS) | ((refine HS.g3 (m := w'.heap.size) ?_ ?_); (focus omega); intro HS) | ((refine HS.g2 (m := w'.heap.size) ?_ ?_); (focus omega); intro HS) | ((refine HS.g1 (m := w'.heap.size) ?_ ?_); (focus omega); intro HS) | ((refine HS.g0 (m := w'.heap.size) ?_ ?_); (focus omega); intro HS)); have HU := HS; simp only [AllLt] at HU; rw [HN.out]) | (go_at_call 40; (with_reducible refine (l5Number_any (dgs s (x + k)) HD4.out _).mono ?_); rintro e w' ⟨rfl, rfl⟩; rw [HD.out]))
    go_ret
    exact ⟨ret_int HR.out.symm, by (repeat' (first | (with_reducible exact Below.refl _ _) | (with_reducible refine Below.setCell ?_ ?_ _) | (with_reducible refine below_drewN' ?_ _) | (with_reducible refine below_drew' ?_) | (with_reducible refine Below.alloc ?_ ?_ _) | (with_reducible assumption) | go_size))⟩
end
section
open Go.RowKit
set_option linter.unusedVariables false
set_option linter.unusedSimpArgs false
theorem prd_lt' {R : Nat → Nat → Nat} (hR : ∀ a b, R a b < 8192) {l : List (Nat × Nat)} (h : l.length ≤ 15) : prdL R l < 100000000000000000 := by have := prdL_lt hR h; omega
noncomputable def ccI (z : Int) (s : ByteArray) : Int := if NV z s then (prdL (mx z.toNat s) (edL z.toNat) : Nat) else -1
theorem ccI_no {z : Int} {s : ByteArray} (h : NV z s = false) : ccI z s = -1 := by simp [ccI, h]
theorem ccI_yes {n : Nat} {R : Nat → Nat → Nat} (h : OkR n R) : ccI n (netS n R) = (prdL R (edL n) : Nat) := by simp [ccI, nv_net h, mx_net h]
end
end Go.Proofs.YtnogdjmciekieabDoor.C
