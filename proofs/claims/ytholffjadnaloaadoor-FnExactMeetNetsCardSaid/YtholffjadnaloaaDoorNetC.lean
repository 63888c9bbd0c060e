/- In how many ways one basic relation can be chosen for each pair: the exact law. -/
import Derived.Test.YtholffjadnaloaaDoorNetY
namespace Go.Proofs.YtholffjadnaloaaDoor.C
open Go.RowKit
set_option linter.unusedVariables false
set_option linter.unusedSimpArgs false
theorem rcount_any (n : Nat) (hn : n < 8192) (w : World) :
    Calls Tryd.prog 101 #[.int .i64 n] w fun e w' => e = .returned (.int .i64 (onesN 13 n : Nat)) ∧ w = w' := by
  have hu : IntKind.u64.wrap (n : Int) = (n : Int) := by rw [IntKind.wrap_u64]; omega
  have HC : Hid (∀ w : World, Calls Tryd.prog 142 #[.int .u64 n] w fun e w' => e = .returned (.int .i64 (onesN 13 n : Nat)) ∧ w = w') := hid fun w => by
    have HS := AllLt.start w; go_enter Tryd.func142, Tryd.ntmps142
    go_wp2_with (first | (go_at_call 166; (with_reducible refine (ones64_any n hn _).mono ?_); rintro e w' ⟨rfl, rfl⟩))
    go_ret
    exact ⟨rfl, rfl⟩
  have HS := AllLt.start w; go_enter Tryd.func101, Tryd.ntmps101
  go_wp2_with (first | (go_at_call 142; (with_reducible refine (HC.out _).mono ?_); rintro e w' ⟨rfl, rfl⟩))
  go_ret
  exact ⟨rfl, rfl⟩
theorem prd_lt' {R : Nat → Nat → Nat} (hR : ∀ a b, R a b < 8192) {l : List (Nat × Nat)} (h : l.length ≤ 15) : prdL R l < 100000000000000000 := by have := prdL_lt hR h; omega
noncomputable def ccI (z : Int) (s : ByteArray) : Int := if NV z s then (prdL (mx z.toNat s) (edL z.toNat) : Nat) else -1
theorem ccI_no {z : Int} {s : ByteArray} (h : NV z s = false) : ccI z s = -1 := by simp [ccI, h]
theorem ccI_yes {n : Nat} {R : Nat → Nat → Nat} (h : OkR n R) : ccI n (netS n R) = (prdL R (edL n) : Nat) := by simp [ccI, nv_net h, mx_net h]
set_option maxHeartbeats 2000000 in
theorem sCountChoices_any (z : Int) (s : ByteArray) (w : World) :
    Calls Tryd.prog 97 #[.agg #[.int .i64 z, .string s]] w fun e w' => e = .returned (.int .i64 (ccI z s)) ∧ Below w.heap.size w w' := by
  rcases nv_cases z s with h | ⟨n, R, hR, rfl, rfl⟩
  · have HNV := hid h
    clear h
    have HS := AllLt.start w; have hn2 := lt2; have hn3 := lt3; have hn4 := lt4; go_enter Tryd.func97, Tryd.ntmps97
    go_wp2_with (first | (go_at_call 95; (with_reducible refine (sNetValid_any z s _).mono ?_); rintro e w' ⟨rfl, hb⟩; obtain ⟨HB, hz0, hz, hc, hf⟩ := bst (w0 := w) (by go_grown) hb; clear hb; (try simp at hz); (first | ((refine HS.g5 (m := w'.heap.size) ?_ ?_); (focus omega); intro HS) | ((refine HS.g4 (m := w'.heap.size) ?_ ?_); (focus omega); intro HS) | ((refine HS.g3 (m := w'.heap.size) ?_ ?_); (focus omega); intro HS) | ((refine HS.g2 (m := w'.heap.size) ?_ ?_); (focus omega); intro HS) | ((refine HS.g1 (m := w'.heap.size) ?_ ?_); (focus omega); intro HS) | ((refine HS.g0 (m := w'.heap.size) ?_ ?_); (focus omega); intro HS)); have HU := HS; simp only [AllLt] at HU; rw [HNV.out]))
    go_ret
    exact ⟨ret_int (ccI_no HNV.out).symm, by (repeat' (first | (with_reducible exact Below.refl _ _) | (with_reducible refine Below.setCell ?_ ?_ _) | (with_reducible refine below_drewN' ?_ _) | (with_reducible refine below_drew' ?_) | (with_reducible refine Below.alloc ?_ ?_ _) | (with_reducible assumption) | go_size))⟩
  · have HNV := hid (nv_net hR)
    have HCC := hid (ccI_yes hR)
    have h6 := hR.le
    have HOK := hid hR
    have HI0 := hid (SI.made w (n : Int) (netS n R) 26)
    clear hR
    generalize hss : netS n R = s at *
    have HSS := hid hss
    clear hss
    have HS := AllLt.start w; go_enter Tryd.func97, Tryd.ntmps97
    go_wp2_with (first | (go_at_call 95; (with_reducible refine (sNetValid_any n s _).mono ?_); rintro e w1 ⟨rfl, hb⟩; rw [HNV.out]; have HI1 := hid (HI0.out.below hb); clear hb HI0))
    go_loopw [3, 4] (fun p v wr => ∃ i : Nat, i ≤ n ∧ v = .int .i64 i ∧ p = .int .i64 ((prdL R (edF n i) : Nat) : Int) ∧ Hid (SI w wr n s)) (fun _ v _ => n - (intOf v).toNat)
    case atStart => exact ⟨0, by omega, rfl, rfl, HI1⟩
    case round =>
      obtain ⟨i, hi, rfl, rfl, HI⟩ := hrel
      clear HS HI1
      have q0 := HI.out.a0
      by_cases hin : i < n
      · have hdi : decide ((i : Int) < (n : Int)) = true := by simp; omega
        go_wp2
        clear q0
        go_loopw [3, 5] (fun p v wr => ∃ m : Nat, i + 1 ≤ m ∧ m ≤ n ∧ v = .int .i64 m ∧ p = .int .i64 ((prdL R (edF n i ++ edI i (m - i - 1)) : Nat) : Int) ∧ Hid (SI w wr n s)) (fun _ v _ => n - (intOf v).toNat)
        case atStart => exact ⟨i + 1, by omega, by omega, by go_num, by rw [show i + 1 - i - 1 = 0 by omega]; simp [edI], HI⟩
        case round =>
          obtain ⟨m, hm, hmn, rfl, rfl, HI2⟩ := hrel
          have q0 := HI2.out.a0
          have q1 := HI2.out.a1
          by_cases hkn : m < n
          · have hdk : decide ((m : Int) < (n : Int)) = true := by simp; omega
            have hr8 := HOK.out.lt i m
            have hlen : (edF n i ++ edI i (m - i - 1)).length ≤ 15 := by
              have h1 := edF_len h6 (show i + 1 ≤ n by omega)
              have h2 : (edF n (i + 1)).length = (edF n i).length + (n - 1 - i) := by rw [edF, List.length_append, edI_len]
              rw [List.length_append, edI_len]; omega
            have hlen2 : (edF n i ++ edI i (m + 1 - i - 1)).length ≤ 15 := by
              have h1 := edF_len h6 (show i + 1 ≤ n by omega)
              have h2 : (edF n (i + 1)).length = (edF n i).length + (n - 1 - i) := by rw [edF, List.length_append, edI_len]
              rw [List.length_append, edI_len]; omega
            have HTK := hid (show prdL R (edF n i ++ edI i (m + 1 - i - 1)) = prdL R (edF n i ++ edI i (m - i - 1)) * onesN 13 (R i m) by
              rw [show m + 1 - i - 1 = (m - i - 1) + 1 by omega, edI_succ, show i + 1 + (m - i - 1) = m by omega, ← List.append_assoc, prdL_snoc])
            have hlt := prd_lt' HOK.out.lt hlen2
            have hlt0 := prd_lt' HOK.out.lt hlen
            have ho13 := ones_le hr8
            have HRI := hid (show rinI n s i m = (R i m : Nat) by rw [← HSS.out]; exact rinI_in HOK.out (by omega) hkn)
            generalize R i m = r at *
            generalize hqq : prdL R (edF n i ++ edI i (m + 1 - i - 1)) = q at *
            have HQQ := hid hqq
            clear hqq
            generalize prdL R (edF n i ++ edI i (m - i - 1)) = p at *
            have hpq : (p : Int) * ((onesN 13 r : Nat) : Int) = (q : Int) := by rw [HTK.out]; push_cast; rfl
            have HCN := hid (l1Ones_any r hr8)
            clear HTK hlen hlen2
            generalize onesN 13 r = o at *
            go_wp2_with (first | (go_at_call 31; (with_reducible refine (sRelIn_any n s i m _).mono ?_); rintro e w4 ⟨rfl, hb⟩; rw [HRI.out]; have HI4 := hid (HI2.out.below hb); clear hb) | (go_at_call 137; (with_reducible refine (HCN.out _).mono ?_); rintro e w' ⟨rfl, rfl⟩))
            go_roundw
            case rel => exact ⟨m + 1, by omega, by omega, by go_num, by rw [HQQ.out], HI4⟩
            case measure => simp [intOf]; omega
          · obtain rfl : m = n := by omega
            have hdk : decide ((m : Int) < (m : Int)) = false := by simp
            have HQ := hid (show prdL R (edF m i ++ edI i (m - i - 1)) = prdL R (edF m (i + 1)) by
              show _ = prdL R (edF m i ++ edI i (m - 1 - i))
              rw [show m - 1 - i = m - i - 1 by omega])
            go_wp2
            go_roundw
            case rel => exact ⟨i + 1, by omega, by go_num, by rw [HQ.out], HI2⟩
            case measure => simp [intOf]; omega
      · obtain rfl : i = n := by omega
        have hdi : decide ((i : Int) < (i : Int)) = false := by simp
        go_wp2
        go_ret
        exact ⟨ret_int HCC.out.symm, HI.out.bel⟩
end Go.Proofs.YtholffjadnaloaaDoor.C
