/- The law of composed sets of orders. -/
import Derived.Test.YtlmcgbcfeflneaaDoorDrawOne
import Derived.Test.YtlmcgbcfeflneaaDoorSet
namespace Go.Proofs.YtlmcgbcfeflneaaDoor.C
open Go.RowKit
set_option linter.unusedVariables false
/-- is there a third number among the first n from -2 on? -/
def smT (r s x y : Int) : Nat → Bool
  | 0 => false
  | n + 1 => smT r s x y n || (ph r (2 * x) ((n : Int) - 2) && ph s ((n : Int) - 2) (2 * y))
theorem smT_all : ∀ r : Fin 8, ∀ s : Fin 8, ∀ x : Fin 5, ∀ y : Fin 5, smT r.val s.val x.val y.val 16 = ph (cpp r.val s.val) x.val y.val := by decide +kernel
theorem cpp_all : ∀ r : Fin 8, ∀ s : Fin 8, ∀ u : Fin 8, ((cpp (cpp r.val s.val) u.val == cpp r.val (cpp s.val u.val)) && (tpp (cpp r.val s.val) == cpp (tpp s.val) (tpp r.val)) && (cpp r.val 2 == r.val) && (cpp 2 r.val == r.val)
    && (cpp r.val (bits .or .i64 s.val u.val) == bits .or .i64 (cpp r.val s.val) (cpp r.val u.val)) && !decide (cpp r.val s.val < 0)) = true := by decide +kernel
theorem pv_fin {r : Int} (h : pv r = true) : ∃ k : Fin 8, r = k.val := by
  rw [pv_iff] at h
  exact ⟨⟨r.toNat, by omega⟩, by simp; omega⟩
theorem cpp_facts {r s u : Int} (hr : pv r = true) (hs : pv s = true) (hu : pv u = true) : (cpp (cpp r s) u == cpp r (cpp s u)) = true ∧ (tpp (cpp r s) == cpp (tpp s) (tpp r)) = true ∧ (cpp r 2 == r) = true ∧ (cpp 2 r == r) = true
    ∧ (cpp r (bits .or .i64 s u) == bits .or .i64 (cpp r s) (cpp r u)) = true := by
  obtain ⟨a, rfl⟩ := pv_fin hr
  obtain ⟨b, rfl⟩ := pv_fin hs
  obtain ⟨c, rfl⟩ := pv_fin hu
  have := cpp_all a b c
  simp only [Bool.and_eq_true] at this
  exact ⟨this.1.1.1.1.1, this.1.1.1.1.2, this.1.1.1.2, this.1.1.2, this.1.2⟩
theorem cpp_nonneg {r s : Int} (hr : pv r = true) (hs : pv s = true) : decide (cpp r s < 0) = false := by
  obtain ⟨a, rfl⟩ := pv_fin hr
  obtain ⟨b, rfl⟩ := pv_fin hs
  have := cpp_all a b 0
  simp only [Bool.and_eq_true] at this
  simpa using this.2
theorem smT_16 {r s : Int} (hr : pv r = true) (hs : pv s = true) {x y : Nat} (hx : x < 5) (hy : y < 5) : smT r s x y 16 = ph (cpp r s) x y := by
  obtain ⟨a, rfl⟩ := pv_fin hr
  obtain ⟨b, rfl⟩ := pv_fin hs
  exact smT_all a b ⟨x, hx⟩ ⟨y, hy⟩
set_option maxHeartbeats 1000000 in
theorem walk_FnComposePoint (a0 : Option Addr) (len0 cap0 : Nat) (z0 : List Int) (a1 : Option Addr) (len1 cap1 : Nat) (z1 : List Int) (w : World) (w0 : IsRow .u8 w a0 len0 cap0 z0) (w1 : IsRow .u8 w a1 len1 cap1 z1) (hT : TO w) :
    Calls Tryd.prog 5 #[.slice a0 len0 cap0, .slice a1 len1 cap1] w fun e w' => e = .returned (.bool true) ∧ Below w.heap.size w w' := by
  have HS := St.start hT
  clear hT
  by_cases hl : len0 ≤ 1048576
  · have hd : decide ((1048576 : Int) < (len0 : Int)) = false := by simp; omega
    by_cases hl1 : len1 ≤ 1048576
    · have hd1 : decide ((1048576 : Int) < (len1 : Int)) = false := by simp; omega
      go_enter Tryd.func5, Tryd.ntmps5
      go_wp2_with fail
      refine (DrawComposePoint_any _ _ _ _ _ w0).mono ?_
      rintro e W1 ⟨r, s, hv, rfl, hb⟩
      have HS1 := HS.step hb
      clear hb w0 w1 HS hv
      by_cases hp : pv r = true ∧ pv s = true
      · obtain ⟨hpr, hps⟩ := hp
        have hn := cpp_nonneg hpr hps
        go_wp2_with (first | (go_at_call 26; (with_reducible refine (iComposePoint_any _ _ _ (St.t (by assumption))).mono ?_); rintro e w' ⟨rfl, hb⟩; have hs := St.step (by assumption) hb; clear hb) | (go_at_call 27; (with_reducible refine (sComposePoint_any _ _ _).mono ?_); rintro e w' ⟨rfl, rfl⟩) | (go_at_call 15; (with_reducible refine (iTurnPoint_any _ _ (St.t (by assumption))).mono ?_); rintro e w' ⟨rfl, hb⟩; have hs := St.step (by assumption) hb; clear hb))
        rename_i W2 hS2
        clear HS1
        go_loop [8] (fun t => ∃ x : Nat, x ≤ 5 ∧ t = .int .i64 x) (fun t => 5 - (intOf t).toNat)
        case atStart => exact ⟨0, by omega, rfl⟩
        case round =>
          obtain ⟨x, hx, rfl⟩ := hrel
          by_cases hx5 : x < 5
          · have dx : decide ((x : Int) < 5) = true := by simp; omega
            go_wp2
            go_loop [9] (fun t => ∃ y : Nat, y ≤ 5 ∧ t = .int .i64 y) (fun t => 5 - (intOf t).toNat)
            case atStart => exact ⟨0, by omega, rfl⟩
            case round =>
              obtain ⟨y, hy, rfl⟩ := hrel
              by_cases hy5 : y < 5
              · have dy : decide ((y : Int) < 5) = true := by simp; omega
                have H16 := hid (smT_16 hpr hps hx5 hy5)
                go_wp2
                go_loop [10, 11] (fun b t => ∃ n : Nat, n ≤ 16 ∧ t = .int .i64 ((n : Int) - 2) ∧ b = .bool (smT r s x y n)) (fun _ t => (14 - intOf t).toNat)
                case atStart => exact ⟨0, by omega, rfl, rfl⟩
                case round =>
                  obtain ⟨n, hn16, rfl, rfl⟩ := hrel
                  by_cases h16 : n < 16
                  · have dn : decide ((n : Int) - 2 < 14) = true := by simp; omega
                    have hstep : Hid (smT r s x y (n + 1) = (smT r s x y n || (ph r (2 * x) ((n : Int) - 2) && ph s ((n : Int) - 2) (2 * y)))) := rfl
                    cases q1 : smT r s x y n <;> cases q2 : ph r (2 * x) ((n : Int) - 2) <;> cases q3 : ph s ((n : Int) - 2) (2 * y)
                    all_goals
                      have Q := hid (show smT r s x y (n + 1) = _ from by rw [hstep.out, q1, q2, q3])
                      clear hstep
                      go_wp2_with (go_at_call 14; (with_reducible refine (iPointHolds_any _ _ _ _).mono ?_); rintro e w' ⟨rfl, rfl⟩)
                      go_round
                      case rel => exact ⟨n + 1, by omega, by go_num, by rw [Q.out]; rfl⟩
                      case measure => simp [intOf]; omega
                  · obtain rfl : n = 16 := by omega
                    have h16' := H16.out
                    go_wp2_with (go_at_call 14; (with_reducible refine (iPointHolds_any _ _ _ _).mono ?_); rintro e w' ⟨rfl, rfl⟩)
                    go_round
                    case rel => exact ⟨y + 1, by omega, by go_num⟩
                    case measure => simp [intOf]; omega
              · obtain rfl : y = 5 := by omega
                go_wp2
                go_round
                case rel => exact ⟨x + 1, by omega, by go_num⟩
                case measure => simp [intOf]; omega
          · obtain rfl : x = 5 := by omega
            have hu : pv ((len1 : Int) % 8) = true := pv_true (by omega) (by omega)
            obtain ⟨f1, f2, f3, f4, f5⟩ := cpp_facts hpr hps hu
            go_wp2_with (first | (go_at_call 26; (with_reducible refine (iComposePoint_any _ _ _ (St.t (by assumption))).mono ?_); rintro e w' ⟨rfl, hb⟩; have hs := St.step (by assumption) hb; clear hb) | (go_at_call 27; (with_reducible refine (sComposePoint_any _ _ _).mono ?_); rintro e w' ⟨rfl, rfl⟩) | (go_at_call 15; (with_reducible refine (iTurnPoint_any _ _ (St.t (by assumption))).mono ?_); rintro e w' ⟨rfl, hb⟩; have hs := St.step (by assumption) hb; clear hb))
            go_ret
            exact ⟨rfl, St.b (by assumption)⟩
      · have e1 : cpp r s = -1 := by
          cases h1 : pv r
          · exact cpp_off1 h1
          · exact cpp_off2 (by cases h2 : pv s <;> simp_all)
        go_wp2_with (first | (go_at_call 26; (with_reducible refine (iComposePoint_any _ _ _ (St.t (by assumption))).mono ?_); rintro e w' ⟨rfl, hb⟩; have hs := St.step (by assumption) hb; clear hb) | (go_at_call 27; (with_reducible refine (sComposePoint_any _ _ _).mono ?_); rintro e w' ⟨rfl, rfl⟩) | (go_at_call 15; (with_reducible refine (iTurnPoint_any _ _ (St.t (by assumption))).mono ?_); rintro e w' ⟨rfl, hb⟩; have hs := St.step (by assumption) hb; clear hb))
        go_ret
        exact ⟨rfl, St.b (by assumption)⟩
    · have hd1 : decide ((1048576 : Int) < (len1 : Int)) = true := by simp; omega
      go_enter Tryd.func5, Tryd.ntmps5
      go_wp2
      go_ret
      exact ⟨rfl, Below.refl _ _⟩
  · have hd : decide ((1048576 : Int) < (len0 : Int)) = true := by simp; omega
    go_enter Tryd.func5, Tryd.ntmps5
    go_wp2
    go_ret
    exact ⟨rfl, Below.refl _ _⟩
end Go.Proofs.YtlmcgbcfeflneaaDoor.C
