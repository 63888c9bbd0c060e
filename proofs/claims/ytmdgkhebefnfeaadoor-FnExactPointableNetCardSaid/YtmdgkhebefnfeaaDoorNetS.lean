/- The model's check of a network, and its relations. -/
import Derived.Test.YtmdgkhebefnfeaaDoorNetG
import Derived.Test.YtmdgkhebefnfeaaDoorTwo
import Derived.Deep.RegionHeld3
import Derived.Deep.QuietTactic
import Derived.BigQuiet
namespace Go.Proofs.YtmdgkhebefnfeaaDoor.C
open Go.RowKit
set_option linter.unusedVariables false
set_option linter.unusedSimpArgs false
/-- A network's argument lies in a block of its own. -/
structure SI (w wr : World) (z : Int) (s : ByteArray) : Prop where
  a0 : wr.cell? ⟨w.heap.size, 0, none⟩ = some (.int .i64 z)
  a1 : wr.cell? ⟨w.heap.size, 1, none⟩ = some (.string s)
  lt : w.heap.size < wr.heap.size
  bel : Below w.heap.size w wr
theorem SI.below {w wr wr' : World} {z : Int} {s : ByteArray} (h : SI w wr z s) (hb : Below wr.heap.size wr wr') : SI w wr' z s where
  a0 := by rw [hb.cell (p := ⟨w.heap.size, 0, none⟩) h.lt]; exact h.a0
  a1 := by rw [hb.cell (p := ⟨w.heap.size, 1, none⟩) h.lt]; exact h.a1
  lt := Nat.lt_of_lt_of_le h.lt hb.size
  bel := h.bel.trans (hb.mono h.bel.size)
theorem SI.made (w : World) (z : Int) (s : ByteArray) (T : TypeId) : SI w (w.alloc (.cells #[.int .i64 z, .string s] T)) z s where
  a0 := by simp [go_sem]
  a1 := by simp [go_sem]
  lt := by simp
  bel := (Below.refl _ _).alloc (Nat.le_refl _) _
theorem slice_dgs (s : ByteArray) (y : Nat) (h : 4 * y + 4 ≤ s.size) (w : World) : (Instr.slice 9 (.string s) (some (.int .i64 (4 * (y : Int)))) (some (.int .i64 (4 * (y : Int) + 4))) none).run Tryd.prog w = .ok (.string (dgs s y)) w := by
  have h0 : (0 : Int) ≤ 4 * (y : Int) := by omega
  have h1 : 4 * (y : Int) ≤ 4 * (y : Int) + 4 := by omega
  have h2 : 4 * (y : Int) + 4 ≤ (s.size : Int) := by omega
  rw [run_slice_string w _ s .i64 .i64 _ _ Tryd.underlying9 h0 h1 h2]
  have e1 : (4 * (y : Int)).toNat = 4 * y := by omega
  have e2 : (4 * (y : Int) + 4).toNat = 4 * y + 4 := by omega
  rw [e1, e2]; rfl
theorem slice_at (s : ByteArray) (x k : Nat) (h : 4 * (x + k) + 4 ≤ s.size) (w : World) : (Instr.slice 9 (.string s) (some (.int .i64 (4 * ((x : Int) + (k : Int))))) (some (.int .i64 (4 * ((x : Int) + (k : Int)) + 4))) none).run Tryd.prog w = .ok (.string (dgs s (x + k))) w := by
  have h := slice_dgs s (x + k) h w
  push_cast at h; exact h
theorem ext_at (s : ByteArray) (x k : Nat) : s.extract (4 * ((x : Int) + (k : Int))).toNat (4 * ((x : Int) + (k : Int)) + 4).toNat = dgs s (x + k) := by
  rw [show (4 * ((x : Int) + (k : Int))).toNat = 4 * (x + k) by omega, show (4 * ((x : Int) + (k : Int)) + 4).toNat = 4 * (x + k) + 4 by omega]; rfl
theorem seq_t {a b : ByteArray} (h : a = b) : (a.toList == b.toList) = true := by rw [h]; exact beq_self_eq_true _
theorem seq_f {a b : ByteArray} (h : ¬ a = b) : (a.toList == b.toList) = false := by
  rw [beq_eq_false_iff_ne]
  intro e
  apply h
  rw [ByteArray.toList_eq, ByteArray.toList_eq] at e
  exact ByteArray.ext (Array.ext' e)
set_option maxHeartbeats 4000000 in
set_option maxRecDepth 100000 in
theorem sNetValid_some (n : Nat) (h1 : 1 ≤ n) (h6 : n ≤ 6) (s : ByteArray) (w : World) :
    Calls Tryd.prog 65 #[.agg #[.int .i64 n, .string s]] w fun e w' => e = .returned (.bool (NV n s)) ∧ Below w.heap.size w w' := by
  have hbn : Hid (btw 1 (n : Int) 6 = true) := hid (by simp [btw]; omega)
  have HI0 := hid (SI.made w (n : Int) s 44)
  have hnn : (4 * (n : Int)) * (n : Int) = ((4 * (n * n) : Nat) : Int) := by push_cast; rw [Int.mul_assoc]
  have hn36 : n * n ≤ 36 := Nat.mul_le_mul h6 h6
  by_cases hsz : s.size = 4 * (n * n)
  · have HRW := hid (chk_rows hsz)
    have HNC := hid (nv_chk (s := s) h1 h6)
    generalize hnq : n * n = nn at *
    have hszq : ((s.size : Int) != 4 * (nn : Int)) = false := by rw [hsz]; simp
    have HS4 := hid hsz
    have HNQ := hid hnq
    clear hsz hnq
    have HS := AllLt.start w; go_enter Tryd.func65, Tryd.ntmps65
    go_wp2_with (first | (go_at_call 49; (with_reducible refine (l1In_any _ _ _ _).mono ?_); rintro e w' ⟨rfl, rfl⟩; rw [hbn.out]))
    go_loopw [3] (fun v wr => ∃ i : Nat, i ≤ n ∧ v = .int .i64 i ∧ Hid (∀ a b, a < i → b < n → rowOk n s a b) ∧ Hid (SI w wr n s)) (fun v _ => n - (intOf v).toNat)
    case atStart => exact ⟨0, by omega, rfl, hid (fun a b ha => by omega), HI0⟩
    case round =>
      obtain ⟨i, hi, rfl, HR, HI⟩ := hrel
      clear HS HI0
      have q0 := HI.out.a0
      by_cases hin : i < n
      · have hdi : decide ((i : Int) < (n : Int)) = true := by simp; omega
        go_wp2
        clear q0
        go_loopw [4] (fun v wr => ∃ k : Nat, k ≤ n ∧ v = .int .i64 k ∧ Hid (∀ b, b < k → rowOk n s i b) ∧ Hid (SI w wr n s)) (fun v _ => n - (intOf v).toNat)
        case atStart => exact ⟨0, by omega, rfl, hid (fun b hb => by omega), HI⟩
        case round =>
          obtain ⟨k, hk, rfl, HRk, HI2⟩ := hrel
          obtain ⟨wi, rfl⟩ : ∃ wi : World, wi = wr := ⟨_, rfl⟩
          have q0 := HI2.out.a0
          have q1 := HI2.out.a1
          have ql := HI2.out.lt
          by_cases hkn : k < n
          · have hdk : decide ((k : Int) < (n : Int)) = true := by simp; omega
            have hlt := at_lt hin hkn
            have hlt2 := at_lt hkn hin
            obtain ⟨x, hx⟩ : ∃ x : Nat, x = i * n := ⟨_, rfl⟩
            obtain ⟨y, hy⟩ : ∃ y : Nat, y = k * n := ⟨_, rfl⟩
            have hmul : (i : Int) * (n : Int) = (x : Int) := by rw [hx]; push_cast; rfl
            have hmuy : (k : Int) * (n : Int) = (y : Int) := by rw [hy]; push_cast; rfl
            have hx36 : x + k < nn := by rw [hx, ← HNQ.out]; exact hlt
            have hy36 : y + i < nn := by rw [hy, ← HNQ.out]; exact hlt2
            have HX := hid hx
            have HY := hid hy
            clear hx hy hlt hlt2
            have hss : 4 * nn ≤ s.size := by have := HS4.out; omega
            have hsl := slice_at s x k (by omega)
            have hsm := slice_at s y i (by omega)
            have hse := ext_at s x k
            have hsf := ext_at s y i
            have b0 : (0 : Int) ≤ 4 * ((x : Int) + (k : Int)) := by omega
            have b1 : 4 * ((x : Int) + (k : Int)) ≤ 4 * ((x : Int) + (k : Int)) + 4 := by omega
            have b2 : 4 * ((x : Int) + (k : Int)) + 4 ≤ (s.size : Int) := by omega
            have c0 : (0 : Int) ≤ 4 * ((y : Int) + (i : Int)) := by omega
            have c1 : 4 * ((y : Int) + (i : Int)) ≤ 4 * ((y : Int) + (i : Int)) + 4 := by omega
            have c2 : 4 * ((y : Int) + (i : Int)) + 4 ≤ (s.size : Int) := by omega
            have hw4 : IntKind.i64.wrap (4 * ((x : Int) + (k : Int)) + 4) = 4 * ((x : Int) + (k : Int)) + 4 := IntWalk.i64_in _ (by omega)
            have hw5 : IntKind.i64.wrap (4 * ((y : Int) + (i : Int)) + 4) = 4 * ((y : Int) + (i : Int)) + 4 := IntWalk.i64_in _ (by omega)
            have HD := hid (l5Number_any (dgs s (x + k)) (dgs_size HS4.out hx36))
            have HRO := hid (show rowOk n s i k ↔ rv (nb (dgs s (x + k))) = true ∧ (i = k → nb (dgs s (x + k)) = 64) ∧ dig (turN (mx n s i k)) = dgs s (y + i) by rw [HX.out, HY.out]; rfl)
            have HNO := hid (show ¬ rowOk n s i k → NV n s = false from fun h => by
              cases e : NV n s
              · rfl
              · exact absurd (HRW.out.1 (HNC.out.1 e) i k hin hkn) h)
            have HYES := hid (show rowOk n s i k → ∀ b, b < k + 1 → rowOk n s i b from fun h b hb => by
              by_cases e : b = k
              · rw [e]; exact h
              · exact HRk.out b (by omega))
            cases hv : rv (nb (dgs s (x + k)))
            · have HV := hid hv
              have HNV := hid (HNO.out fun h => by have := (HRO.out.1 h).1; rw [hv] at this; cases this)
              clear hv
              have HQ1 : Hid (∀ wx : World, Calls Tryd.prog 115 #[.int .i64 (nb (dgs s (x + k)))] wx fun e w' => e = .returned (.bool false) ∧ w' = wx) := hid (fun wx => (sRelValid_any _ wx).mono fun e w' h => ⟨by rw [h.1, HV.out], h.2.symm⟩)
              go_wp2_with (first | (go_at_call 114; (with_reducible refine (HD.out _).mono ?_); rintro e w' ⟨rfl, rfl⟩))
              go_quiet (first | (go_at_call 115; with_reducible exact Calls.quiet_of_same (HQ1.out _)))
              all_goals
                go_wp2
                go_ret
                exact ⟨ret_bool HNV.out.symm, HI2.out.bel.trans (Below.mono (show Below wi.heap.size wi _ from by (repeat' (first | (with_reducible exact Below.refl _ _) | (with_reducible refine Below.setCell ?_ ?_ _) | (with_reducible refine below_drewN' ?_ _) | (with_reducible refine below_drew' ?_) | (with_reducible refine Below.alloc ?_ ?_ _) | (with_reducible assumption) | go_size))) HI2.out.bel.size)⟩
            · have hmx := mx_nb hin hkn (by rw [← HX.out]; exact hv)
              rw [← HX.out] at hmx
              obtain ⟨r, hr⟩ : ∃ r, r = mx n s i k := ⟨_, rfl⟩
              rw [← hr] at hmx
              rw [← hr] at HRO
              have hr8 := hmx.2
              have HN8 := hid hmx.1
              have HV := hid (rv_nat r hr8)
              have hv2 := hv
              clear hmx hr hv
              have HQ1 : Hid (∀ wx : World, Calls Tryd.prog 115 #[.int .i64 (r : Int)] wx fun e w' => e = .returned (.bool true) ∧ w' = wx) := hid (fun wx => (sRelValid_any _ wx).mono fun e w' h => ⟨by rw [h.1, HV.out], h.2.symm⟩)
              have HQ2 : Hid (∀ wx : World, Calls Tryd.prog 117 #[.int .i64 (r : Int)] wx fun e w' => e = .returned (.int .i64 ((turN r : Nat) : Int)) ∧ w' = wx) := hid (fun wx => (l3Turn_any r hr8 wx).mono fun e w' h => ⟨h.1, h.2.symm⟩)
              have HQ3 : Hid (∀ wx : World, Calls Tryd.prog 116 #[.int .i64 ((turN r : Nat) : Int)] wx fun e w' => e = .returned (.string (dig (turN r))) ∧ w' = wx) := hid (fun wx => (l5Digits_any (turN r) (by have := turN_lt r; omega) wx).mono fun e w' h => ⟨h.1, h.2.symm⟩)
              by_cases hik : i = k ∧ r ≠ 64
              · have hq1 : ((i : Int) == (k : Int)) = true := by rw [hik.1]; simp
                have hq2 : ((r : Int) != 64) = true := by rw [bne_iff_ne]; omega
                have HNV := hid (HNO.out fun h => by have := (HRO.out.1 h).2.1 hik.1; rw [HN8.out] at this; omega)
                clear hik hv2 HRO HNO HYES
                go_wp2_with (first | (go_at_call 114; (with_reducible refine (HD.out _).mono ?_); rintro e w' ⟨rfl, rfl⟩; rw [HN8.out]))
                go_quiet (first | (go_at_call 115; with_reducible exact Calls.quiet_of_same (HQ1.out _)) | (go_at_call 117; with_reducible exact Calls.quiet_of_same (HQ2.out _)) | (go_at_call 116; with_reducible exact Calls.quiet_of_same (HQ3.out _)))
                all_goals
                  go_wp2
                  go_ret
                  exact ⟨ret_bool HNV.out.symm, HI2.out.bel.trans (Below.mono (show Below wi.heap.size wi _ from by (repeat' (first | (with_reducible exact Below.refl _ _) | (with_reducible refine Below.setCell ?_ ?_ _) | (with_reducible refine below_drewN' ?_ _) | (with_reducible refine below_drew' ?_) | (with_reducible refine Below.alloc ?_ ?_ _) | (with_reducible assumption) | go_size))) HI2.out.bel.size)⟩
              · have HDX := hid (show dgs s (y + i) = dgs s (y + i) from rfl)
                by_cases hdg : dig (turN r) = dgs s (y + i)
                · have hq3 := seq_t hdg
                  have h64 : i = k → nb (dgs s (x + k)) = 64 := fun e => by
                    have h : r = 64 := by
                      by_cases h : r = 64
                      · exact h
                      · exact absurd ⟨e, h⟩ hik
                    rw [HN8.out, h]; rfl
                  have HR2 := hid (HYES.out (HRO.out.2 ⟨hv2, h64, hdg⟩))
                  clear h64
                  clear hdg hv2 HRO HNO HYES
                  by_cases e : i = k
                  · have hq1 : ((i : Int) == (k : Int)) = true := by rw [e]; simp
                    have hq2 : ((r : Int) != 64) = false := by
                      have : r = 64 := by
                        by_cases h : r = 64
                        · exact h
                        · exact absurd ⟨e, h⟩ hik
                      rw [this]; rfl
                    clear hik e
                    go_wp2_with (first | (go_at_call 114; (with_reducible refine (HD.out _).mono ?_); rintro e w' ⟨rfl, rfl⟩; rw [HN8.out]))
                    go_quiet (first | (go_at_call 115; with_reducible exact Calls.quiet_of_same (HQ1.out _)) | (go_at_call 117; with_reducible exact Calls.quiet_of_same (HQ2.out _)) | (go_at_call 116; with_reducible exact Calls.quiet_of_same (HQ3.out _)))
                    all_goals
                      go_wp2
                      go_roundw
                      case rel => exact ⟨k + 1, by omega, by go_num, HR2, hid (HI2.out.below (by (repeat' (first | (with_reducible exact Below.refl _ _) | (with_reducible refine Below.setCell ?_ ?_ _) | (with_reducible refine below_drewN' ?_ _) | (with_reducible refine below_drew' ?_) | (with_reducible refine Below.alloc ?_ ?_ _) | (with_reducible assumption) | go_size))))⟩
                      case measure => simp [intOf]; omega
                  · have hq1 : ((i : Int) == (k : Int)) = false := by rw [beq_eq_false_iff_ne]; omega
                    clear hik e
                    go_wp2_with (first | (go_at_call 114; (with_reducible refine (HD.out _).mono ?_); rintro e w' ⟨rfl, rfl⟩; rw [HN8.out]))
                    go_quiet (first | (go_at_call 115; with_reducible exact Calls.quiet_of_same (HQ1.out _)) | (go_at_call 117; with_reducible exact Calls.quiet_of_same (HQ2.out _)) | (go_at_call 116; with_reducible exact Calls.quiet_of_same (HQ3.out _)))
                    all_goals
                      go_wp2
                      go_roundw
                      case rel => exact ⟨k + 1, by omega, by go_num, HR2, hid (HI2.out.below (by (repeat' (first | (with_reducible exact Below.refl _ _) | (with_reducible refine Below.setCell ?_ ?_ _) | (with_reducible refine below_drewN' ?_ _) | (with_reducible refine below_drew' ?_) | (with_reducible refine Below.alloc ?_ ?_ _) | (with_reducible assumption) | go_size))))⟩
                      case measure => simp [intOf]; omega
                · have hq3 := seq_f hdg
                  have HNV := hid (HNO.out fun h => hdg (HRO.out.1 h).2.2)
                  clear hdg hv2 HRO HNO HYES
                  by_cases e : i = k
                  · have hq1 : ((i : Int) == (k : Int)) = true := by rw [e]; simp
                    have hq2 : ((r : Int) != 64) = false := by
                      have : r = 64 := by
                        by_cases h : r = 64
                        · exact h
                        · exact absurd ⟨e, h⟩ hik
                      rw [this]; rfl
                    clear hik e
                    go_wp2_with (first | (go_at_call 114; (with_reducible refine (HD.out _).mono ?_); rintro e w' ⟨rfl, rfl⟩; rw [HN8.out]))
                    go_quiet (first | (go_at_call 115; with_reducible exact Calls.quiet_of_same (HQ1.out _)) | (go_at_call 117; with_reducible exact Calls.quiet_of_same (HQ2.out _)) | (go_at_call 116; with_reducible exact Calls.quiet_of_same (HQ3.out _)))
                    all_goals
                      go_wp2
                      go_ret
                      exact ⟨ret_bool HNV.out.symm, HI2.out.bel.trans (Below.mono (show Below wi.heap.size wi _ from by (repeat' (first | (with_reducible exact Below.refl _ _) | (with_reducible refine Below.setCell ?_ ?_ _) | (with_reducible refine below_drewN' ?_ _) | (with_reducible refine below_drew' ?_) | (with_reducible refine Below.alloc ?_ ?_ _) | (with_reducible assumption) | go_size))) HI2.out.bel.size)⟩
                  · have hq1 : ((i : Int) == (k : Int)) = false := by rw [beq_eq_false_iff_ne]; omega
                    clear hik e
                    go_wp2_with (first | (go_at_call 114; (with_reducible refine (HD.out _).mono ?_); rintro e w' ⟨rfl, rfl⟩; rw [HN8.out]))
                    go_quiet (first | (go_at_call 115; with_reducible exact Calls.quiet_of_same (HQ1.out _)) | (go_at_call 117; with_reducible exact Calls.quiet_of_same (HQ2.out _)) | (go_at_call 116; with_reducible exact Calls.quiet_of_same (HQ3.out _)))
                    all_goals
                      go_wp2
                      go_ret
                      exact ⟨ret_bool HNV.out.symm, HI2.out.bel.trans (Below.mono (show Below wi.heap.size wi _ from by (repeat' (first | (with_reducible exact Below.refl _ _) | (with_reducible refine Below.setCell ?_ ?_ _) | (with_reducible refine below_drewN' ?_ _) | (with_reducible refine below_drew' ?_) | (with_reducible refine Below.alloc ?_ ?_ _) | (with_reducible assumption) | go_size))) HI2.out.bel.size)⟩
          · obtain rfl : k = n := by omega
            have hdk : decide ((k : Int) < (k : Int)) = false := by simp
            have HR2 := hid (show ∀ a b, a < i + 1 → b < k → rowOk k s a b from fun a b ha hb => by
              by_cases e : a = i
              · rw [e]; exact HRk.out b hb
              · exact HR.out a b (by omega) hb)
            go_wp2
            go_roundw
            case rel => exact ⟨i + 1, by omega, by go_num, HR2, HI2⟩
            case measure => simp [intOf]; omega
      · obtain rfl : i = n := by omega
        have hdi : decide ((i : Int) < (i : Int)) = false := by simp
        have HNV := hid (HNC.out.2 (HRW.out.2 fun a b ha hb => HR.out a b ha hb))
        go_wp2
        go_ret
        exact ⟨ret_bool HNV.out.symm, HI.out.bel⟩
  · have HNV := hid (show NV n s = false from nv_no h1 h6 fun h => hsz h.size)
    generalize n * n = nn at *
    have hszq : ((s.size : Int) != 4 * (nn : Int)) = true := by rw [bne_iff_ne]; omega
    clear hsz
    have HS := AllLt.start w; go_enter Tryd.func65, Tryd.ntmps65
    go_wp2_with (first | (go_at_call 49; (with_reducible refine (l1In_any _ _ _ _).mono ?_); rintro e w' ⟨rfl, rfl⟩; rw [hbn.out]))
    go_ret
    exact ⟨ret_bool HNV.out.symm, by (repeat' (first | (with_reducible exact Below.refl _ _) | (with_reducible refine Below.setCell ?_ ?_ _) | (with_reducible refine below_drewN' ?_ _) | (with_reducible refine below_drew' ?_) | (with_reducible refine Below.alloc ?_ ?_ _) | (with_reducible assumption) | go_size))⟩
theorem sNetValid_any (z : Int) (s : ByteArray) (w : World) :
    Calls Tryd.prog 65 #[.agg #[.int .i64 z, .string s]] w fun e w' => e = .returned (.bool (NV z s)) ∧ Below w.heap.size w w' := by
  by_cases h : 1 ≤ z ∧ z ≤ 6
  · obtain ⟨n, rfl⟩ : ∃ n : Nat, z = n := ⟨z.toNat, by omega⟩
    exact sNetValid_some n (by omega) (by omega) s w
  · have hbn : Hid (btw 1 z 6 = false) := hid (by simp [btw]; omega)
    have HNV := hid (nv_size (s := s) h)
    clear h
    have HS := AllLt.start w; go_enter Tryd.func65, Tryd.ntmps65
    go_wp2_with (first | (go_at_call 49; (with_reducible refine (l1In_any _ _ _ _).mono ?_); rintro e w' ⟨rfl, rfl⟩; rw [hbn.out]))
    go_ret
    exact ⟨ret_bool HNV.out.symm, by (repeat' (first | (with_reducible exact Below.refl _ _) | (with_reducible refine Below.setCell ?_ ?_ _) | (with_reducible refine below_drewN' ?_ _) | (with_reducible refine below_drew' ?_) | (with_reducible refine Below.alloc ?_ ?_ _) | (with_reducible assumption) | go_size))⟩
end Go.Proofs.YtmdgkhebefnfeaaDoor.C
