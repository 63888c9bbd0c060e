/- The plain functions that the walks of this seat compute: no program is named here. -/
import Derived.RowKit
namespace Go.Proofs.YtlmcgbcfeflneaaDoor.C

/-! Chapter 1: points -/
/-- between two numbers -/
def btw (lo a hi : Int) : Bool := decide (lo ≤ a ∧ a ≤ hi)
/-- a set of orders -/
def pv (r : Int) : Bool := btw 0 r 7
/-- a point of time -/
def tm (x : Int) : Bool := btw (-1000000) x 1000000
/-- the order of two numbers -/
def ord (x y : Int) : Int := if x < y then 1 else if x = y then 2 else 4
/-- the order of two points, 0 for others -/
def oof (x y : Int) : Int := if tm x && tm y then ord x y else 0

theorem ord_cases (x y : Int) : ord x y = 1 ∨ ord x y = 2 ∨ ord x y = 4 := by
  unfold ord; split
  · exact .inl rfl
  · split
    · exact .inr (.inl rfl)
    · exact .inr (.inr rfl)
theorem ord_lt {x y : Int} (h : x < y) : ord x y = 1 := by unfold ord; rw [if_pos h]
theorem ord_eq {x y : Int} (h : x = y) : ord x y = 2 := by unfold ord; rw [if_neg (by omega), if_pos h]
theorem ord_gt {x y : Int} (h : y < x) : ord x y = 4 := by unfold ord; rw [if_neg (by omega), if_neg (by omega)]
theorem pv_true {r : Int} (a : 0 ≤ r) (b : r ≤ 7) : pv r = true := by simp [pv, btw, a, b]
theorem pv_iff (r : Int) : pv r = true ↔ 0 ≤ r ∧ r ≤ 7 := by simp [pv, btw]
theorem pv_low {r : Int} (a : r < 0) : pv r = false := by simp [pv, btw]; omega
theorem pv_high {r : Int} (a : 7 < r) : pv r = false := by simp [pv, btw]; omega
theorem tm_iff (x : Int) : tm x = true ↔ -1000000 ≤ x ∧ x ≤ 1000000 := by simp [tm, btw]
theorem tm_low {r : Int} (a : r < -1000000) : tm r = false := by simp [tm, btw]; omega
theorem tm_high {r : Int} (a : 1000000 < r) : tm r = false := by simp [tm, btw]; omega
theorem oof_tt {x y : Int} (a : tm x = true) (b : tm y = true) : oof x y = ord x y := by simp [oof, a, b]
theorem oof_f1 {x y : Int} (a : tm x = false) : oof x y = 0 := by simp [oof, a]
theorem oof_f2 {x y : Int} (b : tm y = false) : oof x y = 0 := by simp [oof, b]
theorem oof_cases (x y : Int) : oof x y = 0 ∨ oof x y = 1 ∨ oof x y = 2 ∨ oof x y = 4 := by
  unfold oof; split
  · exact .inr (ord_cases x y)
  · exact .inl rfl
theorem pv_cases {r : Int} (h : pv r = true) : r = 0 ∨ r = 1 ∨ r = 2 ∨ r = 3 ∨ r = 4 ∨ r = 5 ∨ r = 6 ∨ r = 7 := by
  rw [pv_iff] at h; omega
/-- a set of orders that holds an order -/
def ph (r x y : Int) : Bool := pv r && (bits .and .i64 r (oof x y) != 0)
theorem ph_off {r x y : Int} (h : pv r = false) : ph r x y = false := by simp [ph, h]
theorem ph_on {r x y : Int} (h : pv r = true) : ph r x y = (bits .and .i64 r (oof x y) != 0) := by simp [ph, h]
/-- how many orders a set has, -1 for others -/
def cnt (r : Int) : Int := if pv r then r % 2 + r / 2 % 2 + r / 4 else -1
theorem cnt_off {r : Int} (h : pv r = false) : cnt r = -1 := by simp [cnt, h]
theorem cnt_on {r : Int} (h : pv r = true) : cnt r = r % 2 + r / 2 % 2 + r / 4 := by simp [cnt, h]
/-- does a set hold an order (1, 2 or 4)? -/
def hs (r o : Int) : Bool := decide (r / o % 2 = 1)
/-- one of the three orders -/
def Ord (o : Int) : Prop := o = 1 ∨ o = 2 ∨ o = 4
theorem ord_Ord (x y : Int) : Ord (ord x y) := ord_cases x y
/-- the set of the turned orders -/
def tp (r : Int) : Int := r % 2 * 4 + r / 2 % 2 * 2 + r / 4
theorem hs_bits {r o : Int} (h : pv r = true) (ho : Ord o) : (bits .and .i64 r o != 0) = hs r o := by
  rcases pv_cases h with rfl | rfl | rfl | rfl | rfl | rfl | rfl | rfl <;> rcases ho with rfl | rfl | rfl <;> decide +kernel
/-- the orders in their order -/
def oat : Nat → Int
  | 0 => 1
  | 1 => 2
  | _ => 4
theorem oat_Ord : ∀ i : Nat, Ord (oat i)
  | 0 => .inl rfl
  | 1 => .inr (.inl rfl)
  | _ + 2 => .inr (.inr rfl)
/-- what two orders leave -/
def othen (o p : Int) : Int := if o = 2 then p else if p = 2 ∨ o = p then o else 7
def bor (a b : Int) : Int := bits .or .i64 a b
def tstep (s t acc o p : Int) : Int := if hs s o && hs t p then bor acc (othen o p) else acc
def thnJ (s t acc o : Int) : Nat → Int
  | 0 => acc
  | j + 1 => tstep s t (thnJ s t acc o j) o (oat j)
def thnI (s t : Int) : Nat → Int
  | 0 => 0
  | i + 1 => thnJ s t (thnI s t i) (oat i) 3
/-- composed sets -/
def cps (s t : Int) : Int := thnI s t 3
def tpp (r : Int) : Int := if pv r then tp r else -1
theorem tpp_off {r : Int} (h : pv r = false) : tpp r = -1 := by simp [tpp, h]
theorem tpp_on {r : Int} (h : pv r = true) : tpp r = tp r := by simp [tpp, h]
def cpp (r s : Int) : Int := if pv r && pv s then cps r s else -1
theorem cpp_off1 {r s : Int} (h : pv r = false) : cpp r s = -1 := by simp [cpp, h]
theorem cpp_off2 {r s : Int} (h : pv s = false) : cpp r s = -1 := by simp [cpp, h]
theorem cpp_on {r s : Int} (h : pv r = true) (h' : pv s = true) : cpp r s = cps r s := by simp [cpp, h, h']
/-- composed sets, as the model finds them: by five numbers on each side -/
def sstep (r s acc x y : Int) : Int := if (bits .and .i64 r (ord x 2) != 0) && (bits .and .i64 s (ord 2 y) != 0) then bor acc (ord x y) else acc
def scJ (r s acc : Int) (x : Nat) : Nat → Int
  | 0 => acc
  | y + 1 => sstep r s (scJ r s acc x y) x y
def scI (r s : Int) : Nat → Int
  | 0 => 0
  | x + 1 => scJ r s (scI r s x) x 5
theorem scI_cps {r s : Int} (h : pv r = true) (h' : pv s = true) : scI r s 5 = cps r s := by
  rcases pv_cases h with rfl | rfl | rfl | rfl | rfl | rfl | rfl | rfl <;> rcases pv_cases h' with rfl | rfl | rfl | rfl | rfl | rfl | rfl | rfl <;> decide +kernel
theorem oof_pts {x y : Int} (h : oof x y ≠ 0) : tm x = true ∧ tm y = true := by
  unfold oof at h
  split at h
  · rename_i c; simpa using c
  · exact absurd rfl h
theorem ord_turn (x y : Int) : ord y x = tp (ord x y) := by
  rcases Int.lt_trichotomy x y with h | h | h
  · rw [ord_lt h, ord_gt h]; decide
  · rw [ord_eq h, ord_eq h.symm]; decide
  · rw [ord_gt h, ord_lt h]; decide
theorem oof_ord {x y : Int} (h : oof x y ≠ 0) : oof x y = ord x y := oof_tt (oof_pts h).1 (oof_pts h).2
theorem oof_turn {x y : Int} (h : oof x y ≠ 0) : oof y x = tpp (oof x y) := by
  have h1 := oof_pts h
  rw [oof_tt h1.2 h1.1, oof_ord h, ord_turn x y]
  rcases ord_cases x y with e | e | e <;> rw [e] <;> decide +kernel
theorem cnt_oof {x y : Int} (h : oof x y ≠ 0) : cnt (oof x y) = 1 := by
  rw [oof_ord h]
  rcases ord_cases x y with e | e | e <;> rw [e] <;> decide +kernel
theorem tpp_pv {r : Int} (h : pv r = true) : pv (tpp r) = true := by
  rcases pv_cases h with rfl | rfl | rfl | rfl | rfl | rfl | rfl | rfl <;> decide +kernel
theorem ph_turn {r x y : Int} (h : pv r = true) (hn : oof x y ≠ 0) : ph (tpp r) y x = ph r x y := by
  rw [ph_on h, ph_on (tpp_pv h), oof_turn hn, oof_ord hn]
  rcases pv_cases h with rfl | rfl | rfl | rfl | rfl | rfl | rfl | rfl <;> rcases ord_cases x y with e | e | e <;> rw [e] <;> decide +kernel
theorem pv_nat {k : Nat} (h : k < 8) : pv (k : Int) = true := pv_true (by omega) (by omega)
/-- the text of a set of orders -/
def fpl (r : Int) : List UInt8 := if r = 0 then [45] else (if hs r 1 then [60] else []) ++ (if hs r 2 then [61] else []) ++ (if hs r 4 then [62] else [])
def fpt (r : Int) : ByteArray := ⟨(if pv r then fpl r else []).toArray⟩
theorem fpt_off {r : Int} (h : pv r = false) : fpt r = ⟨#[]⟩ := by simp [fpt, h]
theorem fpt_on {r : Int} (h : pv r = true) : fpt r = ⟨(fpl r).toArray⟩ := by simp [fpt, h]
end Go.Proofs.YtlmcgbcfeflneaaDoor.C
