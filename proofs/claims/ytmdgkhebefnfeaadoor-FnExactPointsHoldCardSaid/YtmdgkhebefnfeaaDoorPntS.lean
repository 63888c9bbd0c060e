/- The model's check of a network of points, and its orders. -/
import Derived.Test.YtmdgkhebefnfeaaDoorPntE
import Derived.Test.YtmdgkhebefnfeaaDoorTwo
import Derived.Deep.RegionHeld3
import Derived.Deep.QuietTactic
import Derived.BigQuiet
namespace Go.Proofs.YtmdgkhebefnfeaaDoor.C
open Go.RowKit
set_option linter.unusedVariables false
set_option linter.unusedSimpArgs false
theorem tpn_all (x : Nat) : tpn x < 8 := by unfold tpn; omega
theorem rowQ_iff {n : Nat} {s : ByteArray} {i k : Nat} {R R' : Int} (h : R = ((bt s (i * n + k)).toNat : Int) - 48) (h' : R' = ((bt s (k * n + i)).toNat : Int) - 48) :
    rowQ n s i k ↔ pv R = true ∧ (i = k → R = 2) ∧ R' = ((tpn R.toNat : Nat) : Int) := by
  have e1 : 0 ≤ dgI (bt s (i * n + k)) ↔ pv R = true := by
    unfold dgI; rw [pv_iff]; split <;> omega
  have e2 : 0 ≤ dgI (bt s (i * n + k)) → dgI (bt s (i * n + k)) = R ∧ dgN (bt s (i * n + k)) = R.toNat := by
    intro q
    have : dgI (bt s (i * n + k)) = R := by
      unfold dgI at q ⊢
      split at q
      · rename_i hh; rw [if_pos hh]; omega
      · omega
    exact ⟨this, by unfold dgN; rw [this]⟩
  have e3 : dgI (bt s (k * n + i)) = ((tpn R.toNat : Nat) : Int) ↔ R' = ((tpn R.toNat : Nat) : Int) := by
    have := tpn_all R.toNat
    unfold dgI
    split <;> omega
  unfold rowQ
  constructor
  · rintro ⟨q1, q2, q3⟩
    obtain ⟨q4, q5⟩ := e2 q1
    rw [q4] at q2
    rw [q5] at q3
    exact ⟨e1.1 q1, q2, e3.1 q3⟩
  · rintro ⟨q1, q2, q3⟩
    have q1' := e1.2 q1
    obtain ⟨q4, q5⟩ := e2 q1'
    rw [q4, q5]
    exact ⟨by rw [← q4]; exact q1', q2, e3.2 q3⟩
theorem bt_lt (s : ByteArray) (x : Nat) : (bt s x).toNat < 256 := (bt s x).toNat_lt
theorem l1Turn_any (r : Nat) (hr : r < 8) (w : World) :
    Calls Tryd.prog 51 #[.int .i64 (r : Int)] w fun e w' => e = .returned (.int .i64 ((tpn r : Nat) : Int)) ∧ w = w' := by
  rcases nat8 hr with rfl | rfl | rfl | rfl | rfl | rfl | rfl | rfl
  all_goals
    have HS := AllLt.start w; go_enter Tryd.func51, Tryd.ntmps51
    go_wp2
    go_ret
    exact ⟨ret_int (by decide +kernel), rfl⟩
theorem bt_idx2 (s : ByteArray) {x k : Nat} (h : x + k < s.size) (w : World) : (Instr.index 9 (.string s) (.int .i64 ((x : Int) + (k : Int)))).run Tryd.prog w = .ok (.int .u8 (bt s (x + k)).toNat) w := by
  have e : ((x : Int) + (k : Int)).toNat = x + k := by omega
  rw [run_index_string w _ s _ _ Tryd.underlying9, dif_pos ⟨by omega, by omega⟩]
  simp only [e]
  rw [bt_at h]
set_option maxHeartbeats 4000000 in
set_option maxRecDepth 100000 in
theorem sPN_some (n : Nat) (h1 : 1 ≤ n) (h2 : n ≤ 12) (s : ByteArray) (w : World) :
    Calls Tryd.prog 16 #[.agg #[.int .i64 (n : Int), .string s]] w fun e w' => e = .returned (.bool (PV n s)) ∧ Below w.heap.size w w' := by
  have hbn : Hid (btw 1 (n : Int) 12 = true) := hid (by simp [btw]; omega)
  have hnn : (n : Int) * (n : Int) = ((n * n : Nat) : Int) := by push_cast; rfl
  have h144 : n * n ≤ 144 := Nat.mul_le_mul h2 h2
  have HK0 := hid (Pk.made w n s)
  have HB0 := hid ((Below.refl w.heap.size w).alloc (Nat.le_refl _) (.cells #[.int .i64 (n : Int), .string s] 26))
  by_cases hsz : s.size = n * n
  · generalize hnq : n * n = nn at *
    have hszq : ((s.size : Int) != (nn : Int)) = false := by rw [hsz]; simp
    have HSZ := hid hsz
    have HNQ := hid hnq
    have HALL := hid (fun (H : ∀ a b, a < n → b < n → rowQ n s a b) => PV_all (s := s) h1 h2 (by rw [hsz, hnq]) H)
    clear hsz hnq
    have HS := AllLt.start w; go_enter Tryd.func16, Tryd.ntmps16
    go_wp2_with (first | (go_at_call 49; (with_reducible refine (l1In_any _ _ _ _).mono ?_); rintro e w' ⟨rfl, rfl⟩; rw [hbn.out]))
    go_loopw [3] (fun v wr => ∃ i : Nat, i ≤ n ∧ v = .int .i64 i ∧ Hid (∀ a b, a < i → b < n → rowQ n s a b) ∧ Hid (Pk wr w.heap.size n s) ∧ Hid (Below w.heap.size w wr)) (fun v _ => n - (intOf v).toNat)
    case atStart => exact ⟨0, by omega, rfl, hid (fun a b ha => by omega), HK0, HB0⟩
    case round =>
      obtain ⟨i, hi, rfl, HR, HK, HB⟩ := hrel
      clear HS HK0 HB0
      have q0 := HK.out.c0
      by_cases hin : i < n
      · have hdi : decide ((i : Int) < (n : Int)) = true := by simp; omega
        go_wp2
        clear q0
        go_loopw [4] (fun v wr => ∃ k : Nat, k ≤ n ∧ v = .int .i64 k ∧ Hid (∀ b, b < k → rowQ n s i b) ∧ Hid (Pk wr w.heap.size n s) ∧ Hid (Below w.heap.size w wr)) (fun v _ => n - (intOf v).toNat)
        case atStart => exact ⟨0, by omega, rfl, hid (fun b hb => by omega), HK, HB⟩
        case round =>
          obtain ⟨k, hk, rfl, HRk, HK2, HB2⟩ := hrel
          obtain ⟨wi, rfl⟩ : ∃ wi : World, wi = wr := ⟨_, rfl⟩
          (try clear HK HB)
          have q0 := HK2.out.c0
          have q1 := HK2.out.c1
          by_cases hkn : k < n
          · have hdk : decide ((k : Int) < (n : Int)) = true := by simp; omega
            have hlt := pat_lt hin hkn
            have hlt2 := pat_lt hkn hin
            rw [HNQ.out] at hlt hlt2
            obtain ⟨x, hx⟩ : ∃ x : Nat, x = i * n := ⟨_, rfl⟩
            obtain ⟨y, hy⟩ : ∃ y : Nat, y = k * n := ⟨_, rfl⟩
            have hmul : (i : Int) * (n : Int) = (x : Int) := by rw [hx]; push_cast; rfl
            have hmuy : (k : Int) * (n : Int) = (y : Int) := by rw [hy]; push_cast; rfl
            rw [← hx] at hlt
            rw [← hy] at hlt2
            have hid1 := fun wx => bt_idx2 s (x := x) (k := k) (by rw [HSZ.out]; exact hlt) wx
            have hid2 := fun wx => bt_idx2 s (x := y) (k := i) (by rw [HSZ.out]; exact hlt2) wx
            have b1 := bt_lt s (x + k)
            have b2 := bt_lt s (y + i)
            obtain ⟨R, hR⟩ : ∃ R : Int, ((bt s (x + k)).toNat : Int) - 48 = R := ⟨_, rfl⟩
            obtain ⟨R', hR'⟩ : ∃ R' : Int, ((bt s (y + i)).toNat : Int) - 48 = R' := ⟨_, rfl⟩
            have HRO := hid (rowQ_iff (n := n) (s := s) (i := i) (k := k) (R := R) (R' := R') (by rw [← hR, hx]) (by rw [← hR', hy]))
            have HNO := hid (fun (h : ¬ rowQ n s i k) => PV_row hin hkn h)
            have HYES := hid (show rowQ n s i k → ∀ b, b < k + 1 → rowQ n s i b from fun h b hb => by
              by_cases e : b = k
              · rw [e]; exact h
              · exact HRk.out b (by omega))
            generalize (bt s (x + k)).toNat = a at *
            generalize (bt s (y + i)).toNat = a' at *
            clear hx hy
            cases hv : pv R
            · have HV := hid hv
              have HNV := hid (HNO.out fun h => by have := (HRO.out.1 h).1; rw [hv] at this; cases this)
              clear hv
              have HQ1 : Hid (∀ wx : World, Calls Tryd.prog 50 #[.int .i64 R] wx fun e w' => e = .returned (.bool false) ∧ w' = wx) := hid (fun wx => (sPointValid_any _ wx).mono fun e w' h => ⟨by rw [h.1, HV.out], h.2.symm⟩)
              go_wp2_with fail
              go_quiet (first | (go_at_call 50; with_reducible exact Calls.quiet_of_same (HQ1.out _)))
              all_goals
                go_wp2
                go_ret
                exact ⟨ret_bool HNV.out.symm, HB2.out.trans (Below.mono (show Below wi.heap.size wi _ from by (repeat' (first | (with_reducible exact Below.refl _ _) | (with_reducible refine Below.setCell ?_ ?_ _) | (with_reducible refine below_drewN' ?_ _) | (with_reducible refine below_drew' ?_) | (with_reducible refine Below.alloc ?_ ?_ _) | (with_reducible assumption) | go_size))) HB2.out.size)⟩
            · obtain ⟨m, hm8, rfl⟩ : ∃ m : Nat, m < 8 ∧ R = (m : Int) := by
                have := (pv_iff R).1 hv
                exact ⟨R.toNat, by omega, by omega⟩
              have HV := hid hv
              have hv2 := hv
              clear hv
              have HQ1 : Hid (∀ wx : World, Calls Tryd.prog 50 #[.int .i64 (m : Int)] wx fun e w' => e = .returned (.bool true) ∧ w' = wx) := hid (fun wx => (sPointValid_any _ wx).mono fun e w' h => ⟨by rw [h.1, HV.out], h.2.symm⟩)
              have HQ2 : Hid (∀ wx : World, Calls Tryd.prog 51 #[.int .i64 (m : Int)] wx fun e w' => e = .returned (.int .i64 ((tpn m : Nat) : Int)) ∧ w' = wx) := hid (fun wx => (l1Turn_any m hm8 wx).mono fun e w' h => ⟨h.1, h.2.symm⟩)
              rw [show ((m : Nat) : Int).toNat = m by omega] at HRO
              have ht8 := tpn_lt hm8
              generalize tpn m = t at *
              by_cases hik : i = k
              · have hq1 : ((i : Int) == (k : Int)) = true := by rw [hik]; simp
                by_cases h22 : m = 2
                · have hq2 : ((m : Int) != 2) = false := by rw [h22]; rfl
                  by_cases htt : R' = (t : Int)
                  · have hq3 : ((t : Int) != R') = false := by rw [htt]; simp
                    have HR2 := hid (HYES.out (HRO.out.2 ⟨hv2, fun _ => by omega, htt⟩))
                    clear hv2 HRO HNO HYES hik h22 htt
                    go_wp2_with fail
                    go_quiet (first | (go_at_call 50; with_reducible exact Calls.quiet_of_same (HQ1.out _)) | (go_at_call 51; with_reducible exact Calls.quiet_of_same (HQ2.out _)))
                    all_goals
                      go_wp2
                      go_roundw
                      case rel => exact ⟨k + 1, by omega, by go_num, HR2, hid (HK2.out.below (show Below wi.heap.size wi _ from by (repeat' (first | (with_reducible exact Below.refl _ _) | (with_reducible refine Below.setCell ?_ ?_ _) | (with_reducible refine below_drewN' ?_ _) | (with_reducible refine below_drew' ?_) | (with_reducible refine Below.alloc ?_ ?_ _) | (with_reducible assumption) | go_size))) HK2.out.lt), hid (HB2.out.trans (Below.mono (show Below wi.heap.size wi _ from by (repeat' (first | (with_reducible exact Below.refl _ _) | (with_reducible refine Below.setCell ?_ ?_ _) | (with_reducible refine below_drewN' ?_ _) | (with_reducible refine below_drew' ?_) | (with_reducible refine Below.alloc ?_ ?_ _) | (with_reducible assumption) | go_size))) HB2.out.size))⟩
                      case measure => simp [intOf]; omega
                  · have hq3 : ((t : Int) != R') = true := by rw [bne_iff_ne]; omega
                    have HNV := hid (HNO.out fun h => htt (HRO.out.1 h).2.2)
                    clear hv2 HRO HNO HYES hik h22 htt
                    go_wp2_with fail
                    go_quiet (first | (go_at_call 50; with_reducible exact Calls.quiet_of_same (HQ1.out _)) | (go_at_call 51; with_reducible exact Calls.quiet_of_same (HQ2.out _)))
                    all_goals
                      go_wp2
                      go_ret
                      exact ⟨ret_bool HNV.out.symm, HB2.out.trans (Below.mono (show Below wi.heap.size wi _ from by (repeat' (first | (with_reducible exact Below.refl _ _) | (with_reducible refine Below.setCell ?_ ?_ _) | (with_reducible refine below_drewN' ?_ _) | (with_reducible refine below_drew' ?_) | (with_reducible refine Below.alloc ?_ ?_ _) | (with_reducible assumption) | go_size))) HB2.out.size)⟩
                · have hq2 : ((m : Int) != 2) = true := by rw [bne_iff_ne]; omega
                  have HNV := hid (HNO.out fun h => by have := (HRO.out.1 h).2.1 hik; omega)
                  clear hv2 HRO HNO HYES hik h22
                  go_wp2_with fail
                  go_quiet (first | (go_at_call 50; with_reducible exact Calls.quiet_of_same (HQ1.out _)) | (go_at_call 51; with_reducible exact Calls.quiet_of_same (HQ2.out _)))
                  all_goals
                    go_wp2
                    go_ret
                    exact ⟨ret_bool HNV.out.symm, HB2.out.trans (Below.mono (show Below wi.heap.size wi _ from by (repeat' (first | (with_reducible exact Below.refl _ _) | (with_reducible refine Below.setCell ?_ ?_ _) | (with_reducible refine below_drewN' ?_ _) | (with_reducible refine below_drew' ?_) | (with_reducible refine Below.alloc ?_ ?_ _) | (with_reducible assumption) | go_size))) HB2.out.size)⟩
              · have hq1 : ((i : Int) == (k : Int)) = false := by rw [beq_eq_false_iff_ne]; omega
                by_cases htt : R' = (t : Int)
                · have hq3 : ((t : Int) != R') = false := by rw [htt]; simp
                  have HR2 := hid (HYES.out (HRO.out.2 ⟨hv2, fun e => absurd e hik, htt⟩))
                  clear hv2 HRO HNO HYES hik htt
                  go_wp2_with fail
                  go_quiet (first | (go_at_call 50; with_reducible exact Calls.quiet_of_same (HQ1.out _)) | (go_at_call 51; with_reducible exact Calls.quiet_of_same (HQ2.out _)))
                  all_goals
                    go_wp2
                    go_roundw
                    case rel => exact ⟨k + 1, by omega, by go_num, HR2, hid (HK2.out.below (show Below wi.heap.size wi _ from by (repeat' (first | (with_reducible exact Below.refl _ _) | (with_reducible refine Below.setCell ?_ ?_ _) | (with_reducible refine below_drewN' ?_ _) | (with_reducible refine below_drew' ?_) | (with_reducible refine Below.alloc ?_ ?_ _) | (with_reducible assumption) | go_size))) HK2.out.lt), hid (HB2.out.trans (Below.mono (show Below wi.heap.size wi _ from by (repeat' (first | (with_reducible exact Below.refl _ _) | (with_reducible refine Below.setCell ?_ ?_ _) | (with_reducible refine below_drewN' ?_ _) | (with_reducible refine below_drew' ?_) | (with_reducible refine Below.alloc ?_ ?_ _) | (with_reducible assumption) | go_size))) HB2.out.size))⟩
                    case measure => simp [intOf]; omega
                · have hq3 : ((t : Int) != R') = true := by rw [bne_iff_ne]; omega
                  have HNV := hid (HNO.out fun h => htt (HRO.out.1 h).2.2)
                  clear hv2 HRO HNO HYES hik htt
                  go_wp2_with fail
                  go_quiet (first | (go_at_call 50; with_reducible exact Calls.quiet_of_same (HQ1.out _)) | (go_at_call 51; with_reducible exact Calls.quiet_of_same (HQ2.out _)))
                  all_goals
                    go_wp2
                    go_ret
                    exact ⟨ret_bool HNV.out.symm, HB2.out.trans (Below.mono (show Below wi.heap.size wi _ from by (repeat' (first | (with_reducible exact Below.refl _ _) | (with_reducible refine Below.setCell ?_ ?_ _) | (with_reducible refine below_drewN' ?_ _) | (with_reducible refine below_drew' ?_) | (with_reducible refine Below.alloc ?_ ?_ _) | (with_reducible assumption) | go_size))) HB2.out.size)⟩
          · obtain rfl : k = n := by omega
            have hdk : decide ((k : Int) < (k : Int)) = false := by simp
            have HR2 := hid (show ∀ a b, a < i + 1 → b < k → rowQ k s a b from fun a b ha hb => by
              by_cases e : a = i
              · rw [e]; exact HRk.out b hb
              · exact HR.out a b (by omega) hb)
            go_wp2
            go_roundw
            case rel => exact ⟨i + 1, by omega, by go_num, HR2, HK2, HB2⟩
            case measure => simp [intOf]; omega
      · obtain rfl : i = n := by omega
        have hdi : decide ((i : Int) < (i : Int)) = false := by simp
        have HNV := hid (HALL.out fun a b ha hb => HR.out a b ha hb)
        go_wp2
        go_ret
        exact ⟨ret_bool HNV.out.symm, HB.out⟩
  · have HNV := hid (PV_len (n := n) (s := s) hsz)
    generalize n * n = nn at *
    have hszq : ((s.size : Int) != (nn : Int)) = true := by rw [bne_iff_ne]; omega
    clear hsz
    have HS := AllLt.start w; go_enter Tryd.func16, Tryd.ntmps16
    go_wp2_with (first | (go_at_call 49; (with_reducible refine (l1In_any _ _ _ _).mono ?_); rintro e w' ⟨rfl, rfl⟩; rw [hbn.out]))
    go_ret
    exact ⟨ret_bool HNV.out.symm, by (repeat' (first | (with_reducible exact Below.refl _ _) | (with_reducible refine Below.setCell ?_ ?_ _) | (with_reducible refine below_drewN' ?_ _) | (with_reducible refine below_drew' ?_) | (with_reducible refine Below.alloc ?_ ?_ _) | (with_reducible assumption) | go_size))⟩
theorem sPointNetValid_any (z : Int) (s : ByteArray) (w : World) :
    Calls Tryd.prog 16 #[.agg #[.int .i64 z, .string s]] w fun e w' => e = .returned (.bool (PV z s)) ∧ Below w.heap.size w w' := by
  by_cases h : 1 ≤ z ∧ z ≤ 12
  · obtain ⟨n, rfl⟩ : ∃ n : Nat, z = n := ⟨z.toNat, by omega⟩
    exact sPN_some n (by omega) (by omega) s w
  · have hbn : Hid (btw 1 z 12 = false) := hid (by simp [btw]; omega)
    have HNV := hid (PV_size (s := s) h)
    clear h
    have HS := AllLt.start w; go_enter Tryd.func16, Tryd.ntmps16
    go_wp2_with (first | (go_at_call 49; (with_reducible refine (l1In_any _ _ _ _).mono ?_); rintro e w' ⟨rfl, rfl⟩; rw [hbn.out]))
    go_ret
    exact ⟨ret_bool HNV.out.symm, by (repeat' (first | (with_reducible exact Below.refl _ _) | (with_reducible refine Below.setCell ?_ ?_ _) | (with_reducible refine below_drewN' ?_ _) | (with_reducible refine below_drew' ?_) | (with_reducible refine Below.alloc ?_ ?_ _) | (with_reducible assumption) | go_size))⟩
end Go.Proofs.YtmdgkhebefnfeaaDoor.C
