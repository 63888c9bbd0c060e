/- Valid networks and their relations: the exact laws. Relations of two nodes, put and limited: the exact laws. In how many ways one basic relation can be chosen for each pair: the exact law. -/
import Derived.Test.YtmdgkhebefnfeaaDoorNetJt
namespace Go.Proofs.YtmdgkhebefnfeaaDoor.C
section
open Go.RowKit
set_option linter.unusedVariables false
set_option linter.unusedSimpArgs false
theorem networkOf_no (z : Int) (s : ByteArray) (h : NV z s = false) (w : World) (hT : TB w) :
    Calls Tryd.prog 68 #[.agg #[.int .i64 z, .string s]] w fun e w' => e = .returned (.tuple #[.agg (netV 0 fun _ _ => 0), .bool false]) ∧ Below w.heap.size w w' := by
  by_cases hz : 1 ≤ z ∧ z ≤ 6
  · obtain ⟨n, rfl⟩ : ∃ n : Nat, z = n := ⟨z.toNat, by omega⟩
    refine (networkOf_some n (by omega) (by omega) s w hT).mono fun e w' h2 => ?_
    rcases h2.1 with ⟨_, h3⟩ | ⟨h3, _⟩
    · rw [h] at h3; cases h3
    · exact ⟨h3, h2.2⟩
  · exact networkOf_size z s hz w
theorem networkOf_yes (n : Nat) (R : Nat → Nat → Nat) (h : OkR n R) (w : World) (hT : TB w) :
    Calls Tryd.prog 68 #[.agg #[.int .i64 n, .string (netS n R)]] w fun e w' => e = .returned (.tuple #[.agg (netV n R), .bool true]) ∧ Below w.heap.size w w' := by
  refine (networkOf_some n h.pos h.le (netS n R) w hT).mono fun e w' h2 => ?_
  rcases h2.1 with ⟨h3, _⟩ | ⟨_, h3⟩
  · rw [mx_net h] at h3; exact ⟨h3, h2.2⟩
  · rw [nv_net h] at h3; cases h3
theorem szNet_on (z : Int) (s : ByteArray) (hs : s.size ≤ 1048576) (w : World) :
    Calls Tryd.prog 28 #[.agg #[.int .i64 z, .string s], .int .i64 1048576] w fun e w' => e = .returned (.int .i64 (1048576 - s.size)) ∧ Below w.heap.size w w' := by
  have h1 : decide ((1048576 : Int) < (s.size : Int)) = false := by simp; omega
  have h2 : ¬ ((1048576 : Int) - (s.size : Int) < 0) := by omega
  have HS := AllLt.start w; go_enter Tryd.func28, Tryd.ntmps28
  go_wp2
  go_ret
  exact ⟨rfl, by (repeat' (first | (with_reducible exact Below.refl _ _) | (with_reducible refine Below.setCell ?_ ?_ _) | (with_reducible refine below_drewN' ?_ _) | (with_reducible refine below_drew' ?_) | (with_reducible refine Below.alloc ?_ ?_ _) | (with_reducible assumption) | go_size))⟩
theorem szNet_off (z : Int) (s : ByteArray) (hs : ¬ s.size ≤ 1048576) (hm : s.size ≤ maxLen) (w : World) :
    Calls Tryd.prog 28 #[.agg #[.int .i64 z, .string s], .int .i64 1048576] w fun e w' => e = .returned (.int .i64 (-1)) ∧ Below w.heap.size w w' := by
  unfold maxLen at hm
  have h2 : (1048576 : Int) - (s.size : Int) < 0 := by omega
  have h3 : (1048576 : Int) < (s.size : Int) := by omega
  have HS := AllLt.start w; go_enter Tryd.func28, Tryd.ntmps28
  go_wp2
  go_ret
  exact ⟨rfl, by (repeat' (first | (with_reducible exact Below.refl _ _) | (with_reducible refine Below.setCell ?_ ?_ _) | (with_reducible refine below_drewN' ?_ _) | (with_reducible refine below_drew' ?_) | (with_reducible refine Below.alloc ?_ ?_ _) | (with_reducible assumption) | go_size))⟩
theorem toNet_any (z : Int) (s : ByteArray) (w : World) :
    Calls Tryd.prog 30 #[.agg #[.int .i64 z, .string s]] w fun e w' => e = .returned (.agg #[.int .i64 z, .string s]) ∧ Below w.heap.size w w' := by
  have HS := AllLt.start w; have hn2 := lt2; have hn3 := lt3; have hn4 := lt4; go_enter Tryd.func30, Tryd.ntmps30
  go_wp2
  refine bodyPost_ret (by simp [results, Tryd.results30, go_sem, *]; try rfl) rfl ?_
  exact ⟨rfl, by (repeat' (first | (with_reducible exact Below.refl _ _) | (with_reducible refine Below.setCell ?_ ?_ _) | (with_reducible refine below_drewN' ?_ _) | (with_reducible refine below_drew' ?_) | (with_reducible refine Below.alloc ?_ ?_ _) | (with_reducible assumption) | go_size))⟩
def hasB (n : Int) (i : Int) : Bool := btw 0 i (n - 1)
theorem hasB_in {n i : Nat} (h : i < n) : hasB n i = true := by simp [hasB, btw]; omega
theorem hasB_cases (n : Nat) (i : Int) : hasB n i = false ∨ ∃ k : Nat, k < n ∧ i = k := by
  cases h : hasB n i
  · exact .inl rfl
  · right
    simp [hasB, btw] at h
    exact ⟨i.toNat, by omega, by omega⟩
/-- the relation of two nodes, -1 if there is none -/
noncomputable def rinI (z : Int) (s : ByteArray) (i k : Int) : Int := if NV z s && hasB z i && hasB z k then (mx z.toNat s i.toNat k.toNat : Nat) else -1
theorem rinI_no {z : Int} {s : ByteArray} (i k : Int) (h : NV z s = false) : rinI z s i k = -1 := by simp [rinI, h]
theorem rinI_i {z : Int} {s : ByteArray} {i : Int} (k : Int) (h : hasB z i = false) : rinI z s i k = -1 := by simp [rinI, h]
theorem rinI_k {z : Int} {s : ByteArray} {k : Int} (i : Int) (h : hasB z k = false) : rinI z s i k = -1 := by simp [rinI, h]
theorem rinI_in {n : Nat} {R : Nat → Nat → Nat} (h : OkR n R) {i k : Nat} (hi : i < n) (hk : k < n) : rinI n (netS n R) i k = (R i k : Nat) := by
  simp [rinI, nv_net h, hasB_in hi, hasB_in hk, mx_net h]
theorem nhas_any (n : Nat) (i : Int) (w : World) :
    Calls Tryd.prog 54 #[.agg #[.int .i64 n], .int .i64 i] w fun e w' => e = .returned (.bool (hasB n i)) ∧ Below w.heap.size w w' := by
  by_cases h0 : 0 ≤ i
  · by_cases h1 : i < (n : Int)
    · have HR := hid (show hasB n i = true by simp [hasB, btw]; omega)
      have HS := AllLt.start w; go_enter Tryd.func54, Tryd.ntmps54
      go_wp2
      go_ret
      exact ⟨by rw [HR.out]; first | rfl | simp [h1], by (repeat' (first | (with_reducible exact Below.refl _ _) | (with_reducible refine Below.setCell ?_ ?_ _) | (with_reducible refine below_drewN' ?_ _) | (with_reducible refine below_drew' ?_) | (with_reducible refine Below.alloc ?_ ?_ _) | (with_reducible assumption) | go_size))⟩
    · have HR := hid (show hasB n i = false by simp [hasB, btw]; omega)
      have h2 : decide (i < (n : Int)) = false := by simp; omega
      have HS := AllLt.start w; go_enter Tryd.func54, Tryd.ntmps54
      go_wp2
      go_ret
      exact ⟨by rw [HR.out]; first | rfl | simp [h1], by (repeat' (first | (with_reducible exact Below.refl _ _) | (with_reducible refine Below.setCell ?_ ?_ _) | (with_reducible refine below_drewN' ?_ _) | (with_reducible refine below_drew' ?_) | (with_reducible refine Below.alloc ?_ ?_ _) | (with_reducible assumption) | go_size))⟩
  · have HR := hid (show hasB n i = false by simp [hasB, btw]; omega)
    have h2 : decide (0 ≤ i) = false := by simp; omega
    have HS := AllLt.start w; go_enter Tryd.func54, Tryd.ntmps54
    go_wp2
    go_ret
    exact ⟨by rw [HR.out]; first | rfl | simp [h0], by (repeat' (first | (with_reducible exact Below.refl _ _) | (with_reducible refine Below.setCell ?_ ?_ _) | (with_reducible refine below_drewN' ?_ _) | (with_reducible refine below_drew' ?_) | (with_reducible refine Below.alloc ?_ ?_ _) | (with_reducible assumption) | go_size))⟩
end
section
open Go.RowKit
set_option linter.unusedVariables false
set_option linter.unusedSimpArgs false
noncomputable def nodB (z : Int) (s : ByteArray) (i k : Int) : Bool := NV z s && hasB z i && hasB z k
theorem l5Nodes_any (z : Int) (s : ByteArray) (i k : Int) (w : World) :
    Calls Tryd.prog 127 #[.agg #[.int .i64 z, .string s], .int .i64 i, .int .i64 k] w fun e w' => e = .returned (.bool (nodB z s i k)) ∧ Below w.heap.size w w' := by
  rcases nv_cases z s with h | ⟨n, R, hR, rfl, rfl⟩
  · have HNV := hid h
    have HR := hid (show nodB z s i k = false by simp [nodB, h])
    clear h
    have HS := AllLt.start w; have hn2 := lt2; have hn3 := lt3; have hn4 := lt4; go_enter Tryd.func127, Tryd.ntmps127
    go_wp2_with (first | (go_at_call 65; (with_reducible refine (sNetValid_any z s _).mono ?_); rintro e w' ⟨rfl, hb⟩; obtain ⟨HB, hz0, hz, hc, hf⟩ := bst (w0 := w) (by go_grown) hb; clear hb; (try simp at hz); (first | ((refine HS.g5 (m := w'.heap.size) ?_ ?_); (focus omega); intro HS) | ((refine HS.g4 (m := w'.heap.size) ?_ ?_); (focus omega); intro HS) | ((refine HS.g3 (m := w'.heap.size) ?_ ?_); (focus omega); intro HS) | ((refine HS.g2 (m := w'.heap.size) ?_ ?_); (focus omega); intro HS) | ((refine HS.g1 (m := w'.heap.size) ?_ ?_); (focus omega); intro HS) | ((refine HS.g0 (m := w'.heap.size) ?_ ?_); (focus omega); intro HS)); have HU := HS; simp only [AllLt] at HU; rw [HNV.out]))
    go_ret
    exact ⟨ret_bool HR.out.symm, by (repeat' (first | (with_reducible exact Below.refl _ _) | (with_reducible refine Below.setCell ?_ ?_ _) | (with_reducible refine below_drewN' ?_ _) | (with_reducible refine below_drew' ?_) | (with_reducible refine Below.alloc ?_ ?_ _) | (with_reducible assumption) | go_size))⟩
  · have HNV := hid (nv_net hR)
    have hn1 : (1 : Int) ≤ (n : Int) := by have := hR.pos; omega
    have hn6 : (n : Int) ≤ 6 := by have := hR.le; omega
    cases hi : btw 0 i ((n : Int) - 1)
    · have HI := hid hi
      have HR := hid (show nodB n (netS n R) i k = false by simp [nodB, hasB, hi])
      clear hi
      have HS := AllLt.start w; have hn2 := lt2; have hn3 := lt3; have hn4 := lt4; go_enter Tryd.func127, Tryd.ntmps127
      go_wp2_with (first | (go_at_call 65; (with_reducible refine (sNetValid_any _ _ _).mono ?_); rintro e w' ⟨rfl, hb⟩; obtain ⟨HB, hz0, hz, hc, hf⟩ := bst (w0 := w) (by go_grown) hb; clear hb; (try simp at hz); (first | ((refine HS.g5 (m := w'.heap.size) ?_ ?_); (focus omega); intro HS) | ((refine HS.g4 (m := w'.heap.size) ?_ ?_); (focus omega); intro HS) | ((refine HS.g3 (m := w'.heap.size) ?_ ?_); (focus omega); intro HS) | ((refine HS.g2 (m := w'.heap.size) ?_ ?_); (focus omega); intro HS) | ((refine HS.g1 (m := w'.heap.size) ?_ ?_); (focus omega); intro HS) | ((refine HS.g0 (m := w'.heap.size) ?_ ?_); (focus omega); intro HS)); have HU := HS; simp only [AllLt] at HU; rw [HNV.out]) | (go_at_call 49; (with_reducible refine (l1In_any i 0 _ _).mono ?_); rintro e w' ⟨rfl, rfl⟩; rw [HI.out]))
      go_ret
      exact ⟨ret_bool HR.out.symm, by (repeat' (first | (with_reducible exact Below.refl _ _) | (with_reducible refine Below.setCell ?_ ?_ _) | (with_reducible refine below_drewN' ?_ _) | (with_reducible refine below_drew' ?_) | (with_reducible refine Below.alloc ?_ ?_ _) | (with_reducible assumption) | go_size))⟩
    · cases hk : btw 0 k ((n : Int) - 1)
      · have HI := hid hi
        have HK := hid hk
        have HR := hid (show nodB n (netS n R) i k = false by simp [nodB, hasB, hk])
        have hne : ¬ i = k := fun e => by rw [e, hk] at hi; cases hi
        clear hi hk
        have HS := AllLt.start w; have hn2 := lt2; have hn3 := lt3; have hn4 := lt4; go_enter Tryd.func127, Tryd.ntmps127
        go_wp2_with (first | (go_at_call 65; (with_reducible refine (sNetValid_any _ _ _).mono ?_); rintro e w' ⟨rfl, hb⟩; obtain ⟨HB, hz0, hz, hc, hf⟩ := bst (w0 := w) (by go_grown) hb; clear hb; (try simp at hz); (first | ((refine HS.g5 (m := w'.heap.size) ?_ ?_); (focus omega); intro HS) | ((refine HS.g4 (m := w'.heap.size) ?_ ?_); (focus omega); intro HS) | ((refine HS.g3 (m := w'.heap.size) ?_ ?_); (focus omega); intro HS) | ((refine HS.g2 (m := w'.heap.size) ?_ ?_); (focus omega); intro HS) | ((refine HS.g1 (m := w'.heap.size) ?_ ?_); (focus omega); intro HS) | ((refine HS.g0 (m := w'.heap.size) ?_ ?_); (focus omega); intro HS)); have HU := HS; simp only [AllLt] at HU; rw [HNV.out]) | (go_at_call 49; (with_reducible refine (l1In_any i 0 _ _).mono ?_); rintro e w' ⟨rfl, rfl⟩; rw [HI.out]) | (go_at_call 49; (with_reducible refine (l1In_any k 0 _ _).mono ?_); rintro e w' ⟨rfl, rfl⟩; rw [HK.out]))
        go_ret
        exact ⟨ret_bool HR.out.symm, by (repeat' (first | (with_reducible exact Below.refl _ _) | (with_reducible refine Below.setCell ?_ ?_ _) | (with_reducible refine below_drewN' ?_ _) | (with_reducible refine below_drew' ?_) | (with_reducible refine Below.alloc ?_ ?_ _) | (with_reducible assumption) | go_size))⟩
      · have HR := hid (show nodB n (netS n R) i k = true by simp [nodB, hasB, hi, hk, nv_net hR])
        by_cases e : i = k
        · subst e
          have HI := hid hi
          clear hi hk
          have HS := AllLt.start w; have hn2 := lt2; have hn3 := lt3; have hn4 := lt4; go_enter Tryd.func127, Tryd.ntmps127
          go_wp2_with (first | (go_at_call 65; (with_reducible refine (sNetValid_any _ _ _).mono ?_); rintro e w' ⟨rfl, hb⟩; obtain ⟨HB, hz0, hz, hc, hf⟩ := bst (w0 := w) (by go_grown) hb; clear hb; (try simp at hz); (first | ((refine HS.g5 (m := w'.heap.size) ?_ ?_); (focus omega); intro HS) | ((refine HS.g4 (m := w'.heap.size) ?_ ?_); (focus omega); intro HS) | ((refine HS.g3 (m := w'.heap.size) ?_ ?_); (focus omega); intro HS) | ((refine HS.g2 (m := w'.heap.size) ?_ ?_); (focus omega); intro HS) | ((refine HS.g1 (m := w'.heap.size) ?_ ?_); (focus omega); intro HS) | ((refine HS.g0 (m := w'.heap.size) ?_ ?_); (focus omega); intro HS)); have HU := HS; simp only [AllLt] at HU; rw [HNV.out]) | (go_at_call 49; (with_reducible refine (l1In_any i 0 _ _).mono ?_); rintro e w' ⟨rfl, rfl⟩; rw [HI.out]))
          go_ret
          exact ⟨ret_bool HR.out.symm, by (repeat' (first | (with_reducible exact Below.refl _ _) | (with_reducible refine Below.setCell ?_ ?_ _) | (with_reducible refine below_drewN' ?_ _) | (with_reducible refine below_drew' ?_) | (with_reducible refine Below.alloc ?_ ?_ _) | (with_reducible assumption) | go_size))⟩
        · have HI := hid hi
          have HK := hid hk
          clear hi hk
          have HS := AllLt.start w; have hn2 := lt2; have hn3 := lt3; have hn4 := lt4; go_enter Tryd.func127, Tryd.ntmps127
          go_wp2_with (first | (go_at_call 65; (with_reducible refine (sNetValid_any _ _ _).mono ?_); rintro e w' ⟨rfl, hb⟩; obtain ⟨HB, hz0, hz, hc, hf⟩ := bst (w0 := w) (by go_grown) hb; clear hb; (try simp at hz); (first | ((refine HS.g5 (m := w'.heap.size) ?_ ?_); (focus omega); intro HS) | ((refine HS.g4 (m := w'.heap.size) ?_ ?_); (focus omega); intro HS) | ((refine HS.g3 (m := w'.heap.size) ?_ ?_); (focus omega); intro HS) | ((refine HS.g2 (m := w'.heap.size) ?_ ?_); (focus omega); intro HS) | ((refine HS.g1 (m := w'.heap.size) ?_ ?_); (focus omega); intro HS) | ((refine HS.g0 (m := w'.heap.size) ?_ ?_); (focus omega); intro HS)); have HU := HS; simp only [AllLt] at HU; rw [HNV.out]) | (go_at_call 49; (with_reducible refine (l1In_any i 0 _ _).mono ?_); rintro e w' ⟨rfl, rfl⟩; rw [HI.out]) | (go_at_call 49; (with_reducible refine (l1In_any k 0 _ _).mono ?_); rintro e w' ⟨rfl, rfl⟩; rw [HK.out]))
          go_ret
          exact ⟨ret_bool HR.out.symm, by (repeat' (first | (with_reducible exact Below.refl _ _) | (with_reducible refine Below.setCell ?_ ?_ _) | (with_reducible refine below_drewN' ?_ _) | (with_reducible refine below_drew' ?_) | (with_reducible refine Below.alloc ?_ ?_ _) | (with_reducible assumption) | go_size))⟩
theorem nodB_cases (z : Int) (s : ByteArray) (i k : Int) : nodB z s i k = false ∨ ∃ (n : Nat) (R : Nat → Nat → Nat) (a b : Nat), OkR n R ∧ a < n ∧ b < n ∧ z = n ∧ s = netS n R ∧ i = a ∧ k = b := by
  cases h : nodB z s i k
  · exact .inl rfl
  · right
    unfold nodB at h
    rw [Bool.and_eq_true, Bool.and_eq_true] at h
    obtain ⟨⟨h1, h2⟩, h3⟩ := h
    obtain ⟨n, R, hR, rfl, rfl⟩ := nv_iff.1 h1
    rcases hasB_cases n i with hi | ⟨a, ha, rfl⟩
    · rw [hi] at h2; cases h2
    · rcases hasB_cases n k with hk | ⟨b, hb, rfl⟩
      · rw [hk] at h3; cases h3
      · exact ⟨n, R, a, b, hR, ha, hb, rfl, rfl, rfl, rfl⟩
theorem nodB_in {n : Nat} {R : Nat → Nat → Nat} (h : OkR n R) {i k : Nat} (hi : i < n) (hk : k < n) : nodB n (netS n R) i k = true := by
  simp [nodB, nv_net h, hasB_in hi, hasB_in hk]
theorem rinI_off {z : Int} {s : ByteArray} {i k : Int} (h : nodB z s i k = false) : rinI z s i k = -1 := by
  unfold nodB at h
  simp [rinI, h]
set_option maxHeartbeats 1000000 in
theorem sRelIn_any (z : Int) (s : ByteArray) (i k : Int) (w : World) :
    Calls Tryd.prog 74 #[.agg #[.int .i64 z, .string s], .int .i64 i, .int .i64 k] w fun e w' => e = .returned (.int .i64 (rinI z s i k)) ∧ Below w.heap.size w w' := by
  rcases nodB_cases z s i k with h | ⟨n, R, i, k, hR, hi, hk, rfl, rfl, rfl, rfl⟩
  · have HR := hid (rinI_off h)
    have HN := hid h
    clear h
    have HS := AllLt.start w; have hn2 := lt2; have hn3 := lt3; have hn4 := lt4; go_enter Tryd.func74, Tryd.ntmps74
    go_wp2_with (first | (go_at_call 127; (with_reducible refine (l5Nodes_any z s i k _).mono ?_); rintro e w' ⟨rfl, hb⟩; obtain ⟨HB, hz0, hz, hc, hf⟩ := bst (w0 := w) (by go_grown) hb; clear hb; (try simp at hz); (first | ((refine HS.g5 (m := w'.heap.size) ?_ ?_); (focus omega); intro HS) | ((refine HS.g4 (m := w'.heap.size) ?_ ?_); (focus omega); intro HS) | ((refine HS.g3 (m := w'.heap.size) ?_ ?_); (focus omega); intro HS) | ((refine HS.g2 (m := w'.heap.size) ?_ ?_); (focus omega); intro HS) | ((refine HS.g1 (m := w'.heap.size) ?_ ?_); (focus omega); intro HS) | ((refine HS.g0 (m := w'.heap.size) ?_ ?_); (focus omega); intro HS)); have HU := HS; simp only [AllLt] at HU; rw [HN.out]))
    go_ret
    exact ⟨ret_int HR.out.symm, by (repeat' (first | (with_reducible exact Below.refl _ _) | (with_reducible refine Below.setCell ?_ ?_ _) | (with_reducible refine below_drewN' ?_ _) | (with_reducible refine below_drew' ?_) | (with_reducible refine Below.alloc ?_ ?_ _) | (with_reducible assumption) | go_size))⟩
  · have HN := hid (nodB_in hR hi hk)
    have HR := hid (rinI_in hR hi hk)
    have hlt := at_lt hi hk
    have hn36 : n * n ≤ 36 := Nat.mul_le_mul hR.le hR.le
    have hsz := netS_size n R
    obtain ⟨x, hx⟩ : ∃ x : Nat, x = i * n := ⟨_, rfl⟩
    have hmul : (i : Int) * (n : Int) = (x : Int) := by rw [hx]; push_cast; rfl
    have hx36 : x + k < 36 := by rw [hx]; omega
    have hxs : 4 * (x + k) + 4 ≤ (netS n R).size := by rw [hsz, hx]; omega
    have HD := hid (show nb (dgs (netS n R) (x + k)) = (R i k : Nat) by rw [hx, dgs_at n R hi hk]; exact nb_dig (by have := hR.lt i k; omega))
    have HD4 := hid (show (dgs (netS n R) (x + k)).size = 4 by rw [hx, dgs_at n R hi hk]; rfl)
    clear hx hlt hn36 hsz
    generalize netS n R = s at *
    have hsl := slice_at s x k (by omega)
    have hse := ext_at s x k
    have b0 : (0 : Int) ≤ 4 * ((x : Int) + (k : Int)) := by omega
    have b1 : 4 * ((x : Int) + (k : Int)) ≤ 4 * ((x : Int) + (k : Int)) + 4 := by omega
    have b2 : 4 * ((x : Int) + (k : Int)) + 4 ≤ (s.size : Int) := by omega
    have hw4 : IntKind.i64.wrap (4 * ((x : Int) + (k : Int)) + 4) = 4 * ((x : Int) + (k : Int)) + 4 := IntWalk.i64_in _ (by omega)
    have HS := AllLt.start w; have hn2 := lt2; have hn3 := lt3; have hn4 := lt4; go_enter Tryd.func74, Tryd.ntmps74
    go_wp2_with (first | (go_at_call 127; (with_reducible refine (l5Nodes_any _ _ _ _ _).mono ?_); rintro e w' ⟨rfl, hb⟩; obtain ⟨HB, hz0, hz, hc, hf⟩ := bst (w0 := w) (by go_grown) hb; clear hb; (try simp at hz); (first | ((refine HS.g5 (m := w'.heap.size) ?_ ?_); (focus omega); intro HS) | ((refine HS.g4 (m := w'.heap.size) ?_ ?_); (focus omega); intro HS) | ((refine HS.g3 (m := w'.heap.size) ?_ ?_); (focus omega); intro HS) | ((refine HS.g2 (m := w'.heap.size) ?_ ?_); (focus omega); intro HS) | ((refine HS.g1 (m := w'.heap.size) ?_ ?_); (focus omega); intro HS) | ((refine HS.g0 (m := w'.heap.size) ?_ ?_); (focus omega); intro HS)); have HU := HS; simp only [AllLt] at HU; rw [HN.out]) | (go_at_call 114; (with_reducible refine (l5Number_any (dgs s (x + k)) HD4.out _).mono ?_); rintro e w' ⟨rfl, rfl⟩; rw [HD.out]))
    go_ret
    exact ⟨ret_int HR.out.symm, by (repeat' (first | (with_reducible exact Below.refl _ _) | (with_reducible refine Below.setCell ?_ ?_ _) | (with_reducible refine below_drewN' ?_ _) | (with_reducible refine below_drew' ?_) | (with_reducible refine Below.alloc ?_ ?_ _) | (with_reducible assumption) | go_size))⟩
end
section
open Go.RowKit
set_option linter.unusedVariables false
set_option linter.unusedSimpArgs false
theorem prd_lt' {R : Nat → Nat → Nat} (hR : ∀ a b, R a b < 8192) {l : List (Nat × Nat)} (h : l.length ≤ 15) : prdL R l < 100000000000000000 := by have := prdL_lt hR h; omega
noncomputable def ccI (z : Int) (s : ByteArray) : Int := if NV z s then (prdL (mx z.toNat s) (edL z.toNat) : Nat) else -1
theorem ccI_no {z : Int} {s : ByteArray} (h : NV z s = false) : ccI z s = -1 := by simp [ccI, h]
theorem ccI_yes {n : Nat} {R : Nat → Nat → Nat} (h : OkR n R) : ccI n (netS n R) = (prdL R (edL n) : Nat) := by simp [ccI, nv_net h, mx_net h]
end
end Go.Proofs.YtmdgkhebefnfeaaDoor.C
