/- The laws of chapter 1 that draw. -/
import Derived.Test.YtlmcgbcfeflneaaDoorDrawOne
import Derived.Test.YtlmcgbcfeflneaaDoorSet
namespace Go.Proofs.YtlmcgbcfeflneaaDoor.C
open Go.RowKit
set_option linter.unusedVariables false

set_option maxHeartbeats 2000000 in
theorem walk_FnTurnPoint (a0 : Option Addr) (len0 cap0 : Nat) (z0 : List Int) (w : World) (w0 : IsRow .u8 w a0 len0 cap0 z0) (hT : TO w) :
    Calls Tryd.prog 6 #[.slice a0 len0 cap0] w fun e w' => e = .returned (.bool true) ∧ Below w.heap.size w w' := by
  have HS := St.start hT
  by_cases hl : len0 ≤ 1048576
  · have hd : decide ((1048576 : Int) < (len0 : Int)) = false := by simp; omega
    go_enter Tryd.func6, Tryd.ntmps6
    go_wp2_with fail
    refine (DrawTurnPoint_any _ _ _ _ _ w0).mono ?_
    rintro e w1 ⟨v, hv, rfl, hb⟩
    have HS1 := HS.step hb
    clear hb w0 hT HS
    cases hp : pv v
    · have e1 : tpp v = -1 := tpp_off hp
      have e2 : cnt v = -1 := cnt_off hp
      go_wp2_with (first | (go_at_call 15; (with_reducible refine (iTurnPoint_any _ _ (St.t (by assumption))).mono ?_); rintro e w' ⟨rfl, hb⟩; have hs := St.step (by assumption) hb; clear hb) | (go_at_call 29; (with_reducible refine (sTurnPoint_any _ _).mono ?_); rintro e w' ⟨rfl, rfl⟩) | (go_at_call 16; (with_reducible refine (iCountOrders_any _ _).mono ?_); rintro e w' ⟨rfl, rfl⟩) | (go_at_call 26; (with_reducible refine (iComposePoint_any _ _ _ (St.t (by assumption))).mono ?_); rintro e w' ⟨rfl, hb⟩; have hs := St.step (by assumption) hb; clear hb))
      go_ret
      exact ⟨rfl, St.b (by assumption)⟩
    · have t0 : tpp 0 = 0 := by decide +kernel
      have t1 : tpp 1 = 4 := by decide +kernel
      have t2 : tpp 2 = 2 := by decide +kernel
      have t3 : tpp 3 = 6 := by decide +kernel
      have t4 : tpp 4 = 1 := by decide +kernel
      have t5 : tpp 5 = 5 := by decide +kernel
      have t6 : tpp 6 = 3 := by decide +kernel
      have t7 : tpp 7 = 7 := by decide +kernel
      have n0 : cnt 0 = 0 := by decide +kernel
      have n1 : cnt 1 = 1 := by decide +kernel
      have n2 : cnt 2 = 1 := by decide +kernel
      have n3 : cnt 3 = 2 := by decide +kernel
      have n4 : cnt 4 = 1 := by decide +kernel
      have n5 : cnt 5 = 2 := by decide +kernel
      have n6 : cnt 6 = 2 := by decide +kernel
      have n7 : cnt 7 = 3 := by decide +kernel
      have b2 : bits .and .i64 2 2 = 2 := by decide +kernel
      have b7 : bits .and .i64 7 2 = 2 := by decide +kernel
      have c0 : cpp 0 0 = 0 := by decide +kernel
      have c1 : cpp 1 4 = 7 := by decide +kernel
      have c2 : cpp 2 2 = 2 := by decide +kernel
      have c3 : cpp 3 6 = 7 := by decide +kernel
      have c4 : cpp 4 1 = 7 := by decide +kernel
      have c5 : cpp 5 5 = 7 := by decide +kernel
      have c6 : cpp 6 3 = 7 := by decide +kernel
      have c7 : cpp 7 7 = 7 := by decide +kernel
      rcases pv_cases hp with rfl | rfl | rfl | rfl | rfl | rfl | rfl | rfl
      all_goals
        clear hp hv
        go_wp2_with (first | (go_at_call 15; (with_reducible refine (iTurnPoint_any _ _ (St.t (by assumption))).mono ?_); rintro e w' ⟨rfl, hb⟩; have hs := St.step (by assumption) hb; clear hb) | (go_at_call 29; (with_reducible refine (sTurnPoint_any _ _).mono ?_); rintro e w' ⟨rfl, rfl⟩) | (go_at_call 16; (with_reducible refine (iCountOrders_any _ _).mono ?_); rintro e w' ⟨rfl, rfl⟩) | (go_at_call 26; (with_reducible refine (iComposePoint_any _ _ _ (St.t (by assumption))).mono ?_); rintro e w' ⟨rfl, hb⟩; have hs := St.step (by assumption) hb; clear hb))
        go_ret
        exact ⟨rfl, St.b (by assumption)⟩
  · have hd : decide ((1048576 : Int) < (len0 : Int)) = true := by simp; omega
    go_enter Tryd.func6, Tryd.ntmps6
    go_wp2
    go_ret
    exact ⟨rfl, Below.refl _ _⟩
set_option maxHeartbeats 2000000 in
theorem walk_FnOrderOf (a0 : Option Addr) (len0 cap0 : Nat) (z0 : List Int) (w : World) (w0 : IsRow .u8 w a0 len0 cap0 z0) (hT : TO w) :
    Calls Tryd.prog 3 #[.slice a0 len0 cap0] w fun e w' => e = .returned (.bool true) ∧ Below w.heap.size w w' := by
  have HS := St.start hT
  by_cases hl : len0 ≤ 1048576
  · have hd : decide ((1048576 : Int) < (len0 : Int)) = false := by simp; omega
    go_enter Tryd.func3, Tryd.ntmps3
    go_wp2_with fail
    refine (DrawOrderOf_any _ _ _ _ _ w0).mono ?_
    rintro e w1 ⟨x, y, hv, rfl, hb⟩
    have HS1 := HS.step hb
    clear hb w0 hT HS hv
    by_cases hz : oof x y = 0
    · go_wp2_with (first | (go_at_call 12; (with_reducible refine (iOrderOf_any _ _ _).mono ?_); rintro e w' ⟨rfl, rfl⟩) | (go_at_call 13; (with_reducible refine (sOrderOf_any _ _ _).mono ?_); rintro e w' ⟨rfl, rfl⟩))
      go_ret
      exact ⟨rfl, HS1.b⟩
    · have hz0 : (oof x y == 0) = false := by simpa using hz
      have H1 := hid (cnt_oof hz)
      have H2 := hid (oof_turn hz)
      have H3 : Hid (∀ k : Nat, k < 8 → ph (k : Int) x y = (bits .and .i64 (k : Int) (oof x y) != 0) ∧ ph (tpp (k : Int)) y x = (bits .and .i64 (k : Int) (oof x y) != 0)) :=
        hid fun k hk => ⟨ph_on (pv_nat hk), by rw [ph_turn (pv_nat hk) hz, ph_on (pv_nat hk)]⟩
      clear hz
      go_wp2_with (first | (go_at_call 12; (with_reducible refine (iOrderOf_any _ _ _).mono ?_); rintro e w' ⟨rfl, rfl⟩) | (go_at_call 13; (with_reducible refine (sOrderOf_any _ _ _).mono ?_); rintro e w' ⟨rfl, rfl⟩))
      go_loopw [6] (fun s wr => ∃ k : Nat, k ≤ 8 ∧ s = .int .i64 k ∧ St w wr) (fun s _ => 8 - (intOf s).toNat)
      case atStart => exact ⟨0, by omega, rfl, HS1⟩
      case round =>
        obtain ⟨k, hk, rfl, hS⟩ := hrel
        clear HS1
        by_cases h8 : k < 8
        · have q1 := (H3.out k h8).1
          have q2 := (H3.out k h8).2
          go_wp2_with (first | (go_at_call 14; (with_reducible refine (iPointHolds_any _ _ _ _).mono ?_); rintro e w' ⟨rfl, rfl⟩) | (go_at_call 15; (with_reducible refine (iTurnPoint_any _ _ (St.t (by assumption))).mono ?_); rintro e w' ⟨rfl, hb⟩; have hs := St.step (by assumption) hb; clear hb))
          go_roundw
          case rel => exact ⟨k + 1, by omega, by go_num, by assumption⟩
          case measure => simp [intOf]; omega
        · obtain rfl : k = 8 := by omega
          have q1 := H1.out
          have q2 := H2.out
          go_wp2_with (first | (go_at_call 16; (with_reducible refine (iCountOrders_any _ _).mono ?_); rintro e w' ⟨rfl, rfl⟩) | (go_at_call 12; (with_reducible refine (iOrderOf_any _ _ _).mono ?_); rintro e w' ⟨rfl, rfl⟩) | (go_at_call 15; (with_reducible refine (iTurnPoint_any _ _ (St.t (by assumption))).mono ?_); rintro e w' ⟨rfl, hb⟩; have hs := St.step (by assumption) hb; clear hb))
          go_ret
          exact ⟨rfl, St.b (by assumption)⟩
  · have hd : decide ((1048576 : Int) < (len0 : Int)) = true := by simp; omega
    go_enter Tryd.func3, Tryd.ntmps3
    go_wp2
    go_ret
    exact ⟨rfl, Below.refl _ _⟩
end Go.Proofs.YtlmcgbcfeflneaaDoor.C
