/- The greatest relation that, before another one, lies within a third: the program's, the model's, the exact law. -/
import Derived.Test.YthldegohihkkiabDoorCmpS
namespace Go.Proofs.YthldegohihkkiabDoor.C
open Go.RowKit
set_option linter.unusedVariables false
set_option linter.unusedSimpArgs false
theorem and_eq (a b : Nat) (ha : a < 8192) (hb : b < 8192) : (bits .and .i64 (a : Int) (b : Int) == (a : Int)) = decide (a &&& b = a) := by
  rw [i64_and a b ha hb, Bool.eq_iff_iff]
  simp only [beq_iff_eq, decide_eq_true_eq]
  omega
theorem andNot_zero (a b : Nat) (ha : a < 8192) (hb : b < 8192) : (bits .andNot .i64 (a : Int) (b : Int) == 0) = decide (a &&& b = a) := by
  have hx : a &&& (2 ^ 64 - (b + 1)) ≤ a := Nat.and_le_left
  have e : bits .andNot .i64 (a : Int) (b : Int) = ((a &&& (2 ^ 64 - (b + 1)) : Nat) : Int) := by
    show IntKind.i64.wrap ((BitVec.ofInt 64 (a : Int) &&& ~~~BitVec.ofInt 64 (b : Int)).toNat : Int) = _
    rw [BitVec.toNat_and, BitVec.toNat_not, ofInt_u64 a (by omega), ofInt_u64 b (by omega), show 2 ^ 64 - 1 - b = 2 ^ 64 - (b + 1) by omega, IntWalk.i64_in _ (by omega)]
  rw [e, Bool.eq_iff_iff]
  simp only [beq_iff_eq, decide_eq_true_eq]
  have ht : ∀ j, (a &&& (2 ^ 64 - (b + 1))).testBit j = (a.testBit j && (decide (j < 64) && !b.testBit j)) := fun j => by rw [Nat.testBit_and, Nat.testBit_two_pow_sub_succ (by omega)]
  have ha64 : ∀ j, ¬ j < 64 → a.testBit j = false := fun j hj => Nat.testBit_lt_two_pow (Nat.lt_of_lt_of_le (show a < 2 ^ 13 from ha) (Nat.pow_le_pow_right (by omega) (by omega)))
  constructor
  · intro h
    have h0 : a &&& (2 ^ 64 - (b + 1)) = 0 := by omega
    refine Nat.eq_of_testBit_eq fun j => ?_
    have := ht j
    rw [h0, Nat.zero_testBit] at this
    rw [Nat.testBit_and]
    by_cases hj : j < 64
    · exact (by decide : ∀ x y d : Bool, d = true → false = (x && (d && !y)) → (x && y) = x) _ _ _ (decide_eq_true hj) this
    · rw [ha64 j hj]; rfl
  · intro h
    have h0 : a &&& (2 ^ 64 - (b + 1)) = 0 := by
      refine Nat.eq_of_testBit_eq fun j => ?_
      rw [ht j, Nat.zero_testBit]
      have : (a &&& b).testBit j = a.testBit j := by rw [h]
      rw [Nat.testBit_and] at this
      exact (by decide : ∀ x y d : Bool, (x && y) = x → (x && (d && !y)) = false) _ _ _ this
    omega
theorem within_any (r s : Nat) (hr : r < 8192) (hs : s < 8192) (w : World) :
    Calls Tryd.prog 111 #[.int .i64 r, .int .i64 s] w fun e w' => e = .returned (.bool (decide (r &&& s = r))) ∧ w = w' := by
  have HE := hid (and_eq r s hr hs)
  have HS := AllLt.start w; go_enter Tryd.func111, Tryd.ntmps111
  go_wp2
  go_ret
  exact ⟨ret_bool HE.out, rfl⟩
set_option maxHeartbeats 2000000 in
theorem resP_any (q : Nat) (hq : q < 13) (b1 b2 r t : Nat) (hr : r < 8192) (ht : t < 8192) (w : World) (h1 : w.cell? ⟨b1, 0, none⟩ = some (.int .i64 r)) (h2 : w.cell? ⟨b2, 0, none⟩ = some (.int .i64 t)) (hT : TB w) :
    Calls Tryd.prog 109 #[.int .i64 q, .pointer (some ⟨b1, 0, none⟩), .pointer (some ⟨b2, 0, none⟩)] w fun e w' => e = .returned (.bool (reP r t q)) ∧ Below w.heap.size w w' := by
  have HT := hid hT
  clear hT
  have z1 := cell_lt' h1
  have z2 := cell_lt' h2
  have HP := hid (relationOf_any q hq)
  have HN := hid (rthen_any (2 ^ q) r (pow_lt hq) hr)
  have HW := hid (within_any (cmN (2 ^ q) r) t (cmN_lt _ _) ht)
  have HV : Hid (reP r t q = decide (cmN (2 ^ q) r &&& t = cmN (2 ^ q) r)) := hid rfl
  generalize cmN (2 ^ q) r = c at *
  generalize ((2 ^ q : Nat) : Int) = x at *
  have HS := AllLt.start w; go_enter Tryd.func109, Tryd.ntmps109
  go_wp2_with fail
  go_region_held3 (fun wx => wx.cell? ⟨b1, 0, none⟩ = some (.int .i64 r) ∧ wx.cell? ⟨b2, 0, none⟩ = some (.int .i64 t))
    (exact ⟨(Below.cell (B := w.heap.size) (w := w) (p := ⟨b1, 0, none⟩) (by (repeat' (first | (with_reducible exact Below.refl _ _) | (with_reducible refine Below.setCell ?_ ?_ _) | (with_reducible refine below_drewN' ?_ _) | (with_reducible refine below_drew' ?_) | (with_reducible refine Below.alloc ?_ ?_ _) | (with_reducible assumption) | go_size))) z1).trans h1, (Below.cell (B := w.heap.size) (w := w) (p := ⟨b2, 0, none⟩) (by (repeat' (first | (with_reducible exact Below.refl _ _) | (with_reducible refine Below.setCell ?_ ?_ _) | (with_reducible refine below_drewN' ?_ _) | (with_reducible refine below_drew' ?_) | (with_reducible refine Below.alloc ?_ ?_ _) | (with_reducible assumption) | go_size))) z2).trans h2⟩)
    (first | (go_at_call 110; (with_reducible refine (HP.out _).mono ?_); rintro e w' ⟨rfl, rfl⟩) | (go_at_call 106; (with_reducible refine (HN.out _ (HT.out.below (by (repeat' (first | (with_reducible exact Below.refl _ _) | (with_reducible refine Below.setCell ?_ ?_ _) | (with_reducible refine below_drewN' ?_ _) | (with_reducible refine below_drew' ?_) | (with_reducible refine Below.alloc ?_ ?_ _) | (with_reducible assumption) | go_size))))).mono ?_); rintro e w' ⟨rfl, hb⟩; have HB : Below w.heap.size w w' := (bst (w0 := w) (by (repeat' (first | (with_reducible exact Below.refl _ _) | (with_reducible refine Below.setCell ?_ ?_ _) | (with_reducible refine below_drewN' ?_ _) | (with_reducible refine below_drew' ?_) | (with_reducible refine Below.alloc ?_ ?_ _) | (with_reducible assumption) | go_size))) hb).1; clear hb) | (go_at_call 111; (with_reducible refine (HW.out _).mono ?_); rintro e w' ⟨rfl, rfl⟩))
  all_goals
    go_wp2
    go_ret
    exact ⟨ret_bool HV.out.symm, by (repeat' (first | (with_reducible exact Below.refl _ _) | (with_reducible refine Below.setCell ?_ ?_ _) | (with_reducible refine below_drewN' ?_ _) | (with_reducible refine below_drew' ?_) | (with_reducible refine Below.alloc ?_ ?_ _) | (with_reducible assumption) | go_size))⟩
set_option maxHeartbeats 1000000 in
theorem where_res (b1 b2 r t : Nat) (hr : r < 8192) (ht : t < 8192) (w : World) (h1 : w.cell? ⟨b1, 0, none⟩ = some (.int .i64 r)) (h2 : w.cell? ⟨b2, 0, none⟩ = some (.int .i64 t)) (hT : TB w) :
    Calls Tryd.prog 108 #[.func (.func 109) #[] #[.pointer (some ⟨b1, 0, none⟩), .pointer (some ⟨b2, 0, none⟩)]] w fun e w' => e = .returned (.int .i64 ((reN r t : Nat) : Int)) ∧ Below w.heap.size w w' := by
  have HT := hid hT
  clear hT
  have HC := hid h1
  have HD := hid h2
  have z1 := hid (cell_lt' h1)
  have z2 := hid (cell_lt' h2)
  clear h1 h2
  have HS := AllLt.start w; go_enter Tryd.func108, Tryd.ntmps108
  go_wp2
  go_loopw [3, 5] (fun acc v wr => ∃ k : Nat, k ≤ 13 ∧ v = .int .i64 k ∧ acc = .int .i64 ((whF (reP r t) k : Nat) : Int) ∧ Hid (Below w.heap.size w wr)) (fun _ v _ => 13 - (intOf v).toNat)
  case atStart => exact ⟨0, by omega, rfl, rfl, hid (Below.refl _ _)⟩
  case round =>
    obtain ⟨k, hk, rfl, rfl, HB⟩ := hrel
    clear HS
    by_cases h13 : k < 13
    · have hdi : decide ((k : Int) < 13) = true := by simp; omega
      have HA := hid (resP_any k h13 b1 b2 r t hr ht)
      cases hq : reP r t k
      · have HF := hid (whF_miss hq)
        have HQ := hid hq
        clear hq
        go_wp2_with (first | (go_at_call 109; (with_reducible refine (HA.out _ (by rw [HB.out.cell (p := ⟨b1, 0, none⟩) z1.out]; exact HC.out) (by rw [HB.out.cell (p := ⟨b2, 0, none⟩) z2.out]; exact HD.out) (HT.out.below HB.out)).mono ?_); rintro e w' ⟨rfl, hb⟩; rw [HQ.out]))
        go_roundw
        case rel => exact ⟨k + 1, by omega, by go_num, by rw [HF.out], hid (HB.out.trans (hb.mono HB.out.size))⟩
        case measure => simp [intOf]; omega
      · have HF := hid ((i64_or _ _ (whF_lt (p := reP r t) hk) (pow_lt h13)).trans (congrArg _ (whF_hit hq).symm))
        have HQ := hid hq
        clear hq
        go_wp2_with (first | (go_at_call 109; (with_reducible refine (HA.out _ (by rw [HB.out.cell (p := ⟨b1, 0, none⟩) z1.out]; exact HC.out) (by rw [HB.out.cell (p := ⟨b2, 0, none⟩) z2.out]; exact HD.out) (HT.out.below HB.out)).mono ?_); rintro e w' ⟨rfl, hb⟩; rw [HQ.out]) | (go_at_call 110; (with_reducible refine (relationOf_any k h13 _).mono ?_); rintro e w' ⟨rfl, rfl⟩))
        go_roundw
        case rel => exact ⟨k + 1, by omega, by go_num, ret_val HF.out, hid (HB.out.trans (hb.mono HB.out.size))⟩
        case measure => simp [intOf]; omega
    · obtain rfl : k = 13 := by omega
      have hdi : decide (((13 : Nat) : Int) < 13) = false := by simp
      go_wp2
      go_ret
      exact ⟨rfl, HB.out⟩
theorem iResidualRel_any (r s : Int) (w : World) (hT : TB w) :
    Calls Tryd.prog 47 #[.int .i64 r, .int .i64 s] w fun e w' => e = .returned (.int .i64 (resI r s)) ∧ Below w.heap.size w w' := by
  have HT := hid hT
  clear hT
  rcases rv_cases r with h | ⟨n, hn, rfl⟩
  · have H := hid h
    clear h
    have HS := AllLt.start w; go_enter Tryd.func47, Tryd.ntmps47
    go_wp2_with (first | (go_at_call 17; (with_reducible refine (iRelValid_any r _).mono ?_); rintro e w' ⟨rfl, rfl⟩; rw [H.out]))
    go_ret
    exact ⟨ret_int (resI_off1 H.out).symm, by (repeat' (first | (with_reducible exact Below.refl _ _) | (with_reducible refine Below.setCell ?_ ?_ _) | (with_reducible refine below_drewN' ?_ _) | (with_reducible refine below_drew' ?_) | (with_reducible refine Below.alloc ?_ ?_ _) | (with_reducible assumption) | go_size))⟩
  · have H := hid (rv_nat n hn)
    rcases rv_cases s with h2 | ⟨m, hm, rfl⟩
    · have H2 := hid h2
      by_cases e : (n : Int) = s
      · exfalso; subst e; exact Bool.noConfusion (H.out.symm.trans H2.out)
      · clear h2
        have HS := AllLt.start w; have hn2 := lt2; have hn3 := lt3; have hn4 := lt4; go_enter Tryd.func47, Tryd.ntmps47
        go_wp2_with (first | (go_at_call 17; (with_reducible refine (iRelValid_any (n : Int) _).mono ?_); rintro e w' ⟨rfl, rfl⟩; rw [H.out]) | (go_at_call 17; (with_reducible refine (iRelValid_any s _).mono ?_); rintro e w' ⟨rfl, rfl⟩; rw [H2.out]))
        go_ret
        exact ⟨ret_int (resI_off2 H2.out).symm, by (repeat' (first | (with_reducible exact Below.refl _ _) | (with_reducible refine Below.setCell ?_ ?_ _) | (with_reducible refine below_drewN' ?_ _) | (with_reducible refine below_drew' ?_) | (with_reducible refine Below.alloc ?_ ?_ _) | (with_reducible assumption) | go_size))⟩
    · have H2 := hid (rv_nat m hm)
      have HS := AllLt.start w; have hn2 := lt2; have hn3 := lt3; have hn4 := lt4; go_enter Tryd.func47, Tryd.ntmps47
      go_wp2_with (first | (go_at_call 17; (with_reducible refine (iRelValid_any (n : Int) _).mono ?_); rintro e w' ⟨rfl, rfl⟩; rw [H.out]) | (go_at_call 17; (with_reducible refine (iRelValid_any (m : Int) _).mono ?_); rintro e w' ⟨rfl, rfl⟩; rw [H2.out]))
      (with_reducible refine (where_res _ _ n m hn hm _ (by simp [go_sem]) (by simp [go_sem]) (HT.out.below (by go_grown))).mono ?_)
      rintro e w' ⟨rfl, hb⟩
      have HB := hid ((((Below.refl w.heap.size w).alloc (Nat.le_refl _) _).alloc (by simp) _).trans (hb.mono (by simp; omega)))
      clear hb
      go_wp2
      go_ret
      exact ⟨ret_int (resI_on hn hm).symm, HB.out⟩
set_option maxHeartbeats 1000000 in
theorem sResidualRel_any (r s : Int) (w : World) :
    Calls Tryd.prog 48 #[.int .i64 r, .int .i64 s] w fun e w' => e = .returned (.int .i64 (resI r s)) ∧ Below w.heap.size w w' := by
  rcases rv_cases r with h | ⟨n, hn, rfl⟩
  · have H := hid h
    clear h
    have HS := AllLt.start w; go_enter Tryd.func48, Tryd.ntmps48
    go_wp2_with (first | (go_at_call 18; (with_reducible refine (sRelValid_any r _).mono ?_); rintro e w' ⟨rfl, rfl⟩; rw [H.out]))
    go_ret
    exact ⟨ret_int (resI_off1 H.out).symm, Below.refl _ _⟩
  · have H := hid (rv_nat n hn)
    rcases rv_cases s with h2 | ⟨m, hm, rfl⟩
    · have H2 := hid h2
      by_cases e : (n : Int) = s
      · exfalso; subst e; exact Bool.noConfusion (H.out.symm.trans H2.out)
      · clear h2
        have HS := AllLt.start w; go_enter Tryd.func48, Tryd.ntmps48
        go_wp2_with (first | (go_at_call 18; (with_reducible refine (sRelValid_any (n : Int) _).mono ?_); rintro e w' ⟨rfl, rfl⟩; rw [H.out]) | (go_at_call 18; (with_reducible refine (sRelValid_any s _).mono ?_); rintro e w' ⟨rfl, rfl⟩; rw [H2.out]))
        go_ret
        exact ⟨ret_int (resI_off2 H2.out).symm, Below.refl _ _⟩
    · have H2 := hid (rv_nat m hm)
      have HS := AllLt.start w; go_enter Tryd.func48, Tryd.ntmps48
      go_wp2_with (first | (go_at_call 18; (with_reducible refine (sRelValid_any (n : Int) _).mono ?_); rintro e w' ⟨rfl, rfl⟩; rw [H.out]) | (go_at_call 18; (with_reducible refine (sRelValid_any (m : Int) _).mono ?_); rintro e w' ⟨rfl, rfl⟩; rw [H2.out]))
      (with_reducible refine (l3Table_any _).mono ?_)
      rintro e w1 ⟨⟨o, rfl, ho, hT⟩, hb⟩
      have HC := hid (TC.of hT)
      have HB := hid hb
      clear hT ho hb HS
      go_wp2
      go_loop [6, 7] (fun acc v => ∃ k : Nat, k ≤ 13 ∧ v = .int .i64 k ∧ acc = .int .i64 ((whF (reP n m) k : Nat) : Int)) (fun _ v => 13 - (intOf v).toNat)
      case atStart => exact ⟨0, by omega, rfl, rfl⟩
      case round =>
        obtain ⟨k, hk, rfl, rfl⟩ := hrel
        by_cases h13 : k < 13
        · have hdi : decide ((k : Int) < 13) = true := by simp; omega
          have HA := hid (l3Compose_any o (2 ^ k) n (pow_lt h13) hn w1 HC.out)
          have HZ : Hid ((bits .andNot .i64 ((cmN (2 ^ k) n : Nat) : Int) (m : Int) == 0) = reP n m k) := hid (andNot_zero _ _ (cmN_lt _ _) hm)
          have HP := hid (sh_wrap h13)
          generalize cmN (2 ^ k) n = c at *
          cases hq : reP n m k
          · have HF := hid (whF_miss hq)
            have hz := HZ.out.trans hq
            clear hq HZ
            go_wp2_with (first | (go_at_call 107; rw [HP.out]; refine HA.out.mono ?_; rintro e w' ⟨rfl, rfl⟩))
            go_round
            case rel => exact ⟨k + 1, by omega, by go_num, by rw [HF.out]⟩
            case measure => simp [intOf]; omega
          · have HF := hid ((i64_or _ _ (whF_lt (p := reP n m) hk) (pow_lt h13)).trans (congrArg _ (whF_hit hq).symm))
            have hz := HZ.out.trans hq
            clear hq HZ
            go_wp2_with (first | (go_at_call 107; rw [HP.out]; refine HA.out.mono ?_; rintro e w' ⟨rfl, rfl⟩))
            go_round
            case rel => exact ⟨k + 1, by omega, by go_num, ret_val (by first | exact HF.out | (rw [HP.out]; exact HF.out))⟩
            case measure => simp [intOf]; omega
        · obtain rfl : k = 13 := by omega
          have hdi : decide (((13 : Nat) : Int) < 13) = false := by simp
          go_wp2
          go_ret
          exact ⟨ret_int (resI_on hn hm).symm, HB.out⟩
end Go.Proofs.YthldegohihkkiabDoor.C
