/- Relations of two nodes, put and limited: the exact laws. -/
import Derived.Test.YtnogdjmciekieaaDoorNetX
namespace Go.Proofs.YtnogdjmciekieaaDoor.C
open Go.RowKit
set_option linter.unusedVariables false
set_option linter.unusedSimpArgs false
noncomputable def nodB (z : Int) (s : ByteArray) (i k : Int) : Bool := NV z s && hasB z i && hasB z k
theorem l5Nodes_any (z : Int) (s : ByteArray) (i k : Int) (w : World) :
    Calls Tryd.prog 44 #[.agg #[.int .i64 z, .string s], .int .i64 i, .int .i64 k] w fun e w' => e = .returned (.bool (nodB z s i k)) ∧ Below w.heap.size w w' := by
  rcases nv_cases z s with h | ⟨n, R, hR, rfl, rfl⟩
  · have HNV := hid h
    have HR := hid (show nodB z s i k = false by simp [nodB, h])
    clear h
    have HS := AllLt.start w; have hn2 := lt2; have hn3 := lt3; have hn4 := lt4; go_enter Tryd.func44, Tryd.ntmps44
    go_wp2_with (first | (go_at_call 39; (with_reducible refine (sNetValid_any z s _).mono ?_); rintro e w' ⟨rfl, hb⟩; obtain ⟨HB, hz0, hz, hc, hf⟩ := bst (w0 := w) (by go_grown) hb; clear hb; (try simp at hz); (first | ((refine HS.g5 (m := w'.heap.size) ?_ ?_); (focus omega); intro HS) | ((refine HS.g4 (m := w'.heap.size) ?_ ?_); (focus omega); intro HS) | ((refine HS.g3 (m := w'.heap.size) ?_ ?_); (focus omega); intro HS) | ((refine HS.g2 (m := w'.heap.size) ?_ ?_); (focus omega); intro HS) | ((refine HS.g1 (m := w'.heap.size) ?_ ?_); (focus omega); intro HS) | ((refine HS.g0 (m := w'.heap.size) ?_ ?_); (focus omega); intro HS)); have HU := HS; simp only [AllLt] at HU; rw [HNV.out]))
    go_ret
    exact ⟨ret_bool HR.out.symm, by (repeat' (first | (with_reducible exact Below.refl _ _) | (with_reducible refine Below.setCell ?_ ?_ _) | (with_reducible refine below_drewN' ?_ _) | (with_reducible refine below_drew' ?_) | (with_reducible refine Below.alloc ?_ ?_ _) | (with_reducible assumption) | go_size))⟩
  · have HNV := hid (nv_net hR)
    have hn1 : (1 : Int) ≤ (n : Int) := by have := hR.pos; omega
    have hn6 : (n : Int) ≤ 6 := by have := hR.le; omega
    cases hi : btw 0 i ((n : Int) - 1)
    · have HI := hid hi
      have HR := hid (show nodB n (netS n R) i k = false by simp [nodB, hasB, hi])
      clear hi
      have HS := AllLt.start w; have hn2 := lt2; have hn3 := lt3; have hn4 := lt4; go_enter Tryd.func44, Tryd.ntmps44
      go_wp2_with (first | (go_at_call 39; (with_reducible refine (sNetValid_any _ _ _).mono ?_); rintro e w' ⟨rfl, hb⟩; obtain ⟨HB, hz0, hz, hc, hf⟩ := bst (w0 := w) (by go_grown) hb; clear hb; (try simp at hz); (first | ((refine HS.g5 (m := w'.heap.size) ?_ ?_); (focus omega); intro HS) | ((refine HS.g4 (m := w'.heap.size) ?_ ?_); (focus omega); intro HS) | ((refine HS.g3 (m := w'.heap.size) ?_ ?_); (focus omega); intro HS) | ((refine HS.g2 (m := w'.heap.size) ?_ ?_); (focus omega); intro HS) | ((refine HS.g1 (m := w'.heap.size) ?_ ?_); (focus omega); intro HS) | ((refine HS.g0 (m := w'.heap.size) ?_ ?_); (focus omega); intro HS)); have HU := HS; simp only [AllLt] at HU; rw [HNV.out]) | (go_at_call 43; (with_reducible refine (l1In_any i 0 _ _).mono ?_); rintro e w' ⟨rfl, rfl⟩; rw [HI.out]))
      go_ret
      exact ⟨ret_bool HR.out.symm, by (repeat' (first | (with_reducible exact Below.refl _ _) | (with_reducible refine Below.setCell ?_ ?_ _) | (with_reducible refine below_drewN' ?_ _) | (with_reducible refine below_drew' ?_) | (with_reducible refine Below.alloc ?_ ?_ _) | (with_reducible assumption) | go_size))⟩
    · cases hk : btw 0 k ((n : Int) - 1)
      · have HI := hid hi
        have HK := hid hk
        have HR := hid (show nodB n (netS n R) i k = false by simp [nodB, hasB, hk])
        have hne : ¬ i = k := fun e => by rw [e, hk] at hi; cases hi
        clear hi hk
        have HS := AllLt.start w; have hn2 := lt2; have hn3 := lt3; have hn4 := lt4; go_enter Tryd.func44, Tryd.ntmps44
        go_wp2_with (first | (go_at_call 39; (with_reducible refine (sNetValid_any _ _ _).mono ?_); rintro e w' ⟨rfl, hb⟩; obtain ⟨HB, hz0, hz, hc, hf⟩ := bst (w0 := w) (by go_grown) hb; clear hb; (try simp at hz); (first | ((refine HS.g5 (m := w'.heap.size) ?_ ?_); (focus omega); intro HS) | ((refine HS.g4 (m := w'.heap.size) ?_ ?_); (focus omega); intro HS) | ((refine HS.g3 (m := w'.heap.size) ?_ ?_); (focus omega); intro HS) | ((refine HS.g2 (m := w'.heap.size) ?_ ?_); (focus omega); intro HS) | ((refine HS.g1 (m := w'.heap.size) ?_ ?_); (focus omega); intro HS) | ((refine HS.g0 (m := w'.heap.size) ?_ ?_); (focus omega); intro HS)); have HU := HS; simp only [AllLt] at HU; rw [HNV.out]) | (go_at_call 43; (with_reducible refine (l1In_any i 0 _ _).mono ?_); rintro e w' ⟨rfl, rfl⟩; rw [HI.out]) | (go_at_call 43; (with_reducible refine (l1In_any k 0 _ _).mono ?_); rintro e w' ⟨rfl, rfl⟩; rw [HK.out]))
        go_ret
        exact ⟨ret_bool HR.out.symm, by (repeat' (first | (with_reducible exact Below.refl _ _) | (with_reducible refine Below.setCell ?_ ?_ _) | (with_reducible refine below_drewN' ?_ _) | (with_reducible refine below_drew' ?_) | (with_reducible refine Below.alloc ?_ ?_ _) | (with_reducible assumption) | go_size))⟩
      · have HR := hid (show nodB n (netS n R) i k = true by simp [nodB, hasB, hi, hk, nv_net hR])
        by_cases e : i = k
        · subst e
          have HI := hid hi
          clear hi hk
          have HS := AllLt.start w; have hn2 := lt2; have hn3 := lt3; have hn4 := lt4; go_enter Tryd.func44, Tryd.ntmps44
          go_wp2_with (first | (go_at_call 39; (with_reducible refine (sNetValid_any _ _ _).mono ?_); rintro e w' ⟨rfl, hb⟩; obtain ⟨HB, hz0, hz, hc, hf⟩ := bst (w0 := w) (by go_grown) hb; clear hb; (try simp at hz); (first | ((refine HS.g5 (m := w'.heap.size) ?_ ?_); (focus omega); intro HS) | ((refine HS.g4 (m := w'.heap.size) ?_ ?_); (focus omega); intro HS) | ((refine HS.g3 (m := w'.heap.size) ?_ ?_); (focus omega); intro HS) | ((refine HS.g2 (m := w'.heap.size) ?_ ?_); (focus omega); intro HS) | ((refine HS.g1 (m := w'.heap.size) ?_ ?_); (focus omega); intro HS) | ((refine HS.g0 (m := w'.heap.size) ?_ ?_); (focus omega); intro HS)); have HU := HS; simp only [AllLt] at HU; rw [HNV.out]) | (go_at_call 43; (with_reducible refine (l1In_any i 0 _ _).mono ?_); rintro e w' ⟨rfl, rfl⟩; rw [HI.out]))
          go_ret
          exact ⟨ret_bool HR.out.symm, by (repeat' (first | (with_reducible exact Below.refl _ _) | (with_reducible refine Below.setCell ?_ ?_ _) | (with_reducible refine below_drewN' ?_ _) | (with_reducible refine below_drew' ?_) | (with_reducible refine Below.alloc ?_ ?_ _) | (with_reducible assumption) | go_size))⟩
        · have HI := hid hi
          have HK := hid hk
          clear hi hk
          have HS := AllLt.start w; have hn2 := lt2; have hn3 := lt3; have hn4 := lt4; go_enter Tryd.func44, Tryd.ntmps44
          go_wp2_with (first | (go_at_call 39; (with_reducible refine (sNetValid_any _ _ _).mono ?_); rintro e w' ⟨rfl, hb⟩; obtain ⟨HB, hz0, hz, hc, hf⟩ := bst (w0 := w) (by go_grown) hb; clear hb; (try simp at hz); (first | ((refine HS.g5 (m := w'.heap.size) ?_ ?_); (focus omega); intro HS) | ((refine HS.g4 (m := w'.heap.size) ?_ ?_); (focus omega); intro HS) | ((refine HS.g3 (m := w'.heap.size) ?_ ?_); (focus omega); intro HS) | ((refine HS.g2 (m := w'.heap.size) ?_ ?_); (focus omega); intro HS) | ((refine HS.g1 (m := w'.heap.size) ?_ ?_); (focus omega); intro HS) | ((refine HS.g0 (m := w'.heap.size) ?_ ?_); (focus omega); intro HS)); have HU := HS; simp only [AllLt] at HU; rw [HNV.out]) | (go_at_call 43; (with_reducible refine (l1In_any i 0 _ _).mono ?_); rintro e w' ⟨rfl, rfl⟩; rw [HI.out]) | (go_at_call 43; (with_reducible refine (l1In_any k 0 _ _).mono ?_); rintro e w' ⟨rfl, rfl⟩; rw [HK.out]))
          go_ret
          exact ⟨ret_bool HR.out.symm, by (repeat' (first | (with_reducible exact Below.refl _ _) | (with_reducible refine Below.setCell ?_ ?_ _) | (with_reducible refine below_drewN' ?_ _) | (with_reducible refine below_drew' ?_) | (with_reducible refine Below.alloc ?_ ?_ _) | (with_reducible assumption) | go_size))⟩
theorem nodB_cases (z : Int) (s : ByteArray) (i k : Int) : nodB z s i k = false ∨ ∃ (n : Nat) (R : Nat → Nat → Nat) (a b : Nat), OkR n R ∧ a < n ∧ b < n ∧ z = n ∧ s = netS n R ∧ i = a ∧ k = b := by
  cases h : nodB z s i k
  · exact .inl rfl
  · right
    unfold nodB at h
    rw [Bool.and_eq_true, Bool.and_eq_true] at h
    obtain ⟨⟨h1, h2⟩, h3⟩ := h
    obtain ⟨n, R, hR, rfl, rfl⟩ := nv_iff.1 h1
    rcases hasB_cases n i with hi | ⟨a, ha, rfl⟩
    · rw [hi] at h2; cases h2
    · rcases hasB_cases n k with hk | ⟨b, hb, rfl⟩
      · rw [hk] at h3; cases h3
      · exact ⟨n, R, a, b, hR, ha, hb, rfl, rfl, rfl, rfl⟩
theorem nodB_in {n : Nat} {R : Nat → Nat → Nat} (h : OkR n R) {i k : Nat} (hi : i < n) (hk : k < n) : nodB n (netS n R) i k = true := by
  simp [nodB, nv_net h, hasB_in hi, hasB_in hk]
theorem rinI_off {z : Int} {s : ByteArray} {i k : Int} (h : nodB z s i k = false) : rinI z s i k = -1 := by
  unfold nodB at h
  simp [rinI, h]
set_option maxHeartbeats 1000000 in
theorem sRelIn_any (z : Int) (s : ByteArray) (i k : Int) (w : World) :
    Calls Tryd.prog 41 #[.agg #[.int .i64 z, .string s], .int .i64 i, .int .i64 k] w fun e w' => e = .returned (.int .i64 (rinI z s i k)) ∧ Below w.heap.size w w' := by
  rcases nodB_cases z s i k with h | ⟨n, R, i, k, hR, hi, hk, rfl, rfl, rfl, rfl⟩
  · have HR := hid (rinI_off h)
    have HN := hid h
    clear h
    have HS := AllLt.start w; have hn2 := lt2; have hn3 := lt3; have hn4 := lt4; go_enter Tryd.func41, Tryd.ntmps41
    go_wp2_with (first | (go_at_call 44; (with_reducible refine (l5Nodes_any z s i k _).mono ?_); rintro e w' ⟨rfl, hb⟩; obtain ⟨HB, hz0, hz, hc, hf⟩ := bst (w0 := w) (by go_grown) hb; clear hb; (try simp at hz); (first | ((refine HS.g5 (m := w'.heap.size) ?_ ?_); (focus omega); intro HS) | ((refine HS.g4 (m := w'.heap.size) ?_ ?_); (focus omega); intro HS) | ((refine HS.g3 (m := w'.heap.size) ?_ ?_); (focus omega); intro HS) | ((refine HS.g2 (m := w'.heap.size) ?_ ?_); (focus omega); intro HS) | ((refine HS.g1 (m := w'.heap.size) ?_ ?_); (focus omega); intro HS) | ((refine HS.g0 (m := w'.heap.size) ?_ ?_); (focus omega); intro HS)); have HU := HS; simp only [AllLt] at HU; rw [HN.out]))
    go_ret
    exact ⟨ret_int HR.out.symm, by (repeat' (first | (with_reducible exact Below.refl _ _) | (with_reducible refine Below.setCell ?_ ?_ _) | (with_reducible refine below_drewN' ?_ _) | (with_reducible refine below_drew' ?_) | (with_reducible refine Below.alloc ?_ ?_ _) | (with_reducible assumption) | go_size))⟩
  · have HN := hid (nodB_in hR hi hk)
    have HR := hid (rinI_in hR hi hk)
    have hlt := at_lt hi hk
    have hn36 : n * n ≤ 36 := Nat.mul_le_mul hR.le hR.le
    have hsz := netS_size n R
    obtain ⟨x, hx⟩ : ∃ x : Nat, x = i * n := ⟨_, rfl⟩
    have hmul : (i : Int) * (n : Int) = (x : Int) := by rw [hx]; push_cast; rfl
    have hx36 : x + k < 36 := by rw [hx]; omega
    have hxs : 4 * (x + k) + 4 ≤ (netS n R).size := by rw [hsz, hx]; omega
    have HD := hid (show nb (dgs (netS n R) (x + k)) = (R i k : Nat) by rw [hx, dgs_at n R hi hk]; exact nb_dig (by have := hR.lt i k; omega))
    have HD4 := hid (show (dgs (netS n R) (x + k)).size = 4 by rw [hx, dgs_at n R hi hk]; rfl)
    clear hx hlt hn36 hsz
    generalize netS n R = s at *
    have hsl := slice_at s x k (by omega)
    have hse := ext_at s x k
    have b0 : (0 : Int) ≤ 4 * ((x : Int) + (k : Int)) := by omega
    have b1 : 4 * ((x : Int) + (k : Int)) ≤ 4 * ((x : Int) + (k : Int)) + 4 := by omega
    have b2 : 4 * ((x : Int) + (k : Int)) + 4 ≤ (s.size : Int) := by omega
    have hw4 : IntKind.i64.wrap (4 * ((x : Int) + (k : Int)) + 4) = 4 * ((x : Int) + (k : Int)) + 4 := IntWalk.i64_in _ (by omega)
    have HS := AllLt.start w; have hn2 := lt2; have hn3 := lt3; have hn4 := lt4; go_enter Tryd.func41, Tryd.ntmps41
    go_wp2_with (first | (go_at_call 44; (with_reducible refine (l5Nodes_any _ _ _ _ _).mono ?_); rintro e w' ⟨rfl, hb⟩; obtain ⟨HB, hz0, hz, hc, hf⟩ := bst (w0 := w) (by go_grown) hb; clear hb; (try simp at hz); (first | ((refine HS.g5 (m := w'.heap.size) ?_ ?_); (focus omega); intro HS) | ((refine HS.g4 (m := w'.heap.size) ?_ ?_); (focus omega); intro HS) | ((refine HS.g3 (m := w'.heap.size) ?_ ?_); (focus omega); intro HS) | ((refine HS.g2 (m := w'.heap.size) ?_ ?_); (focus omega); intro HS) | ((refine HS.g1 (m := w'.heap.size) ?_ ?_); (focus omega); intro HS) | ((refine HS.g0 (m := w'.heap.size) ?_ ?_); (focus omega); intro HS)); have HU := HS; simp only [AllLt] at HU; rw [HN.out]) | (go_at_call 72; (with_reducible refine (l5Number_any (dgs s (x + k)) HD4.out _).mono ?_); rintro e w' ⟨rfl, rfl⟩; rw [HD.out]))
    go_ret
    exact ⟨ret_int HR.out.symm, by (repeat' (first | (with_reducible exact Below.refl _ _) | (with_reducible refine Below.setCell ?_ ?_ _) | (with_reducible refine below_drewN' ?_ _) | (with_reducible refine below_drew' ?_) | (with_reducible refine Below.alloc ?_ ?_ _) | (with_reducible assumption) | go_size))⟩
end Go.Proofs.YtnogdjmciekieaaDoor.C
