/- The plain functions that the walks of this seat compute: no program is named here. -/
import Derived.RowKit
namespace Go.Proofs.Ytlmcgbcfeflneaa.C

/-! Chapter 1: points -/
/-- between two numbers -/
def btw (lo a hi : Int) : Bool := decide (lo ≤ a ∧ a ≤ hi)
/-- a set of orders -/
def pv (r : Int) : Bool := btw 0 r 7
/-- a point of time -/
def tm (x : Int) : Bool := btw (-1000000) x 1000000
/-- the order of two numbers -/
def ord (x y : Int) : Int := if x < y then 1 else if x = y then 2 else 4
/-- the order of two points, 0 for others -/
def oof (x y : Int) : Int := if tm x && tm y then ord x y else 0

theorem ord_cases (x y : Int) : ord x y = 1 ∨ ord x y = 2 ∨ ord x y = 4 := by
  unfold ord; split
  · exact .inl rfl
  · split
    · exact .inr (.inl rfl)
    · exact .inr (.inr rfl)
theorem ord_lt {x y : Int} (h : x < y) : ord x y = 1 := by unfold ord; rw [if_pos h]
theorem ord_eq {x y : Int} (h : x = y) : ord x y = 2 := by unfold ord; rw [if_neg (by omega), if_pos h]
theorem ord_gt {x y : Int} (h : y < x) : ord x y = 4 := by unfold ord; rw [if_neg (by omega), if_neg (by omega)]
theorem pv_true {r : Int} (a : 0 ≤ r) (b : r ≤ 7) : pv r = true := by simp [pv, btw, a, b]
theorem pv_iff (r : Int) : pv r = true ↔ 0 ≤ r ∧ r ≤ 7 := by simp [pv, btw]
theorem pv_low {r : Int} (a : r < 0) : pv r = false := by simp [pv, btw]; omega
theorem pv_high {r : Int} (a : 7 < r) : pv r = false := by simp [pv, btw]; omega
theorem tm_iff (x : Int) : tm x = true ↔ -1000000 ≤ x ∧ x ≤ 1000000 := by simp [tm, btw]
theorem tm_low {r : Int} (a : r < -1000000) : tm r = false := by simp [tm, btw]; omega
theorem tm_high {r : Int} (a : 1000000 < r) : tm r = false := by simp [tm, btw]; omega
theorem oof_tt {x y : Int} (a : tm x = true) (b : tm y = true) : oof x y = ord x y := by simp [oof, a, b]
theorem oof_f1 {x y : Int} (a : tm x = false) : oof x y = 0 := by simp [oof, a]
theorem oof_f2 {x y : Int} (b : tm y = false) : oof x y = 0 := by simp [oof, b]
theorem oof_cases (x y : Int) : oof x y = 0 ∨ oof x y = 1 ∨ oof x y = 2 ∨ oof x y = 4 := by
  unfold oof; split
  · exact .inr (ord_cases x y)
  · exact .inl rfl
theorem pv_cases {r : Int} (h : pv r = true) : r = 0 ∨ r = 1 ∨ r = 2 ∨ r = 3 ∨ r = 4 ∨ r = 5 ∨ r = 6 ∨ r = 7 := by
  rw [pv_iff] at h; omega
/-- a set of orders that holds an order -/
def ph (r x y : Int) : Bool := pv r && (bits .and .i64 r (oof x y) != 0)
theorem ph_off {r x y : Int} (h : pv r = false) : ph r x y = false := by simp [ph, h]
theorem ph_on {r x y : Int} (h : pv r = true) : ph r x y = (bits .and .i64 r (oof x y) != 0) := by simp [ph, h]
/-- how many orders a set has, -1 for others -/
def cnt (r : Int) : Int := if pv r then r % 2 + r / 2 % 2 + r / 4 else -1
theorem cnt_off {r : Int} (h : pv r = false) : cnt r = -1 := by simp [cnt, h]
theorem cnt_on {r : Int} (h : pv r = true) : cnt r = r % 2 + r / 2 % 2 + r / 4 := by simp [cnt, h]
end Go.Proofs.Ytlmcgbcfeflneaa.C
