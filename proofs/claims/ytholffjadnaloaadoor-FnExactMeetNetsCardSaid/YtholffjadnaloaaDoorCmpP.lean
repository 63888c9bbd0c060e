/- Composition of basic relations and of relations: plain functions, by the orders of ends and by a table of 169 numbers. -/
import Derived.Test.YtholffjadnaloaaDoorRelP
namespace Go.Proofs.YtholffjadnaloaaDoor.C
open Go.RowKit
/-- what two basic relations leave, by the number of the first and of the second -/
def cmL : List Nat := [1, 1, 1, 1, 31, 31, 1, 1, 1, 1, 31, 31, 8191, 1, 1, 1, 2, 28, 28, 2, 1, 1, 2, 28, 224, 7936, 1, 1, 7, 4, 28, 28, 4, 7, 391, 388, 2044, 1792, 7936, 1, 1, 7, 8, 16, 16, 8, 7, 391, 584, 1072, 2048, 4096, 1, 1, 31, 16, 16, 16, 16, 31, 8191, 7216, 7216, 4096, 4096, 1, 2, 28, 16, 16, 32, 32, 224, 7936, 7168, 7168, 4096, 4096, 1, 2, 4, 8, 16, 32, 64, 128, 256, 512, 1024, 2048, 4096, 1, 2, 4, 4, 28, 224, 128, 128, 256, 256, 1792, 1792, 7936, 391, 388, 388, 388, 2044, 1792, 256, 256, 256, 256, 1792, 1792, 7936, 391, 388, 388, 584, 1072, 1024, 512, 256, 256, 512, 1024, 2048, 4096, 391, 388, 2044, 1072, 1072, 1024, 1024, 1792, 7936, 7168, 7168, 4096, 4096, 391, 584, 1072, 1072, 1072, 2048, 2048, 2048, 4096, 4096, 4096, 4096, 4096, 8191, 7216, 7216, 7216, 7216, 4096, 4096, 4096, 4096, 4096, 4096, 4096, 4096]
def cmT (i k : Nat) : Nat := cmL.getD (13 * i + k) 0
/-- the orders of the ends of a basic relation -/
def e0 (k : Nat) : Int := ord (zf k) 1
def e1 (k : Nat) : Int := ord (zf k) 3
def e2 (k : Nat) : Int := ord (zt k) 1
def e3 (k : Nat) : Int := ord (zt k) 3
def band (a b : Int) : Int := bits .and .i64 a b
/-- the orders that the ends can have by way of a third interval -/
def t0 (i k : Nat) : Int := band (othen (e0 i) (e0 k)) (othen (e1 i) (e2 k))
def t1 (i k : Nat) : Int := band (othen (e0 i) (e1 k)) (othen (e1 i) (e3 k))
def t2 (i k : Nat) : Int := band (othen (e2 i) (e0 k)) (othen (e3 i) (e2 k))
def t3 (i k : Nat) : Int := band (othen (e2 i) (e1 k)) (othen (e3 i) (e3 k))
/-- may ends be in these orders? -/
def alw (a b c d : Int) (j : Nat) : Bool := hs a (e0 j) && hs b (e1 j) && hs c (e2 j) && hs d (e3 j)
def all13 (p : Nat → Bool) : Bool := allB p 13
theorem all13_of {p : Nat → Bool} (h : all13 p = true) {n : Nat} (hn : n < 13) : p n = true := allB_of h n hn
theorem cm_then {i k : Nat} (hi : i < 13) (hk : k < 13) : whN (alw (t0 i k) (t1 i k) (t2 i k) (t3 i k)) = cmT i k := by
  have h : all13 (fun i => all13 fun k => whN (alw (t0 i k) (t1 i k) (t2 i k) (t3 i k)) == cmT i k) = true := by decide +kernel
  simpa using all13_of (all13_of h hi) hk
theorem t_pv {i k : Nat} (hi : i < 13) (hk : k < 13) : pv (t0 i k) = true ∧ pv (t1 i k) = true ∧ pv (t2 i k) = true ∧ pv (t3 i k) = true := by
  have h : all13 (fun i => all13 fun k => pv (t0 i k) && pv (t1 i k) && pv (t2 i k) && pv (t3 i k)) = true := by decide +kernel
  have := all13_of (all13_of h hi) hk
  simp only [Bool.and_eq_true] at this
  exact ⟨this.1.1.1, this.1.1.2, this.1.2, this.2⟩
theorem cmT_lt {i k : Nat} (hi : i < 13) (hk : k < 13) : cmT i k < 8192 := by
  have h : all13 (fun i => all13 fun k => decide (cmT i k < 8192)) = true := by decide +kernel
  exact of_decide_eq_true (all13_of (all13_of h hi) hk)
/-- composed relations -/
def cmI (r s i k : Nat) : Nat := orN (fun k => if r.testBit i && s.testBit k then cmT i k else 0) k
def cmF (r s i : Nat) : Nat := orN (fun i => cmI r s i 13) i
def cmN (r s : Nat) : Nat := cmF r s 13
theorem cmI_lt {r s i k : Nat} (hi : i < 13) (hk : k ≤ 13) : cmI r s i k < 8192 := orN_lt fun j hj => by
  split
  · exact cmT_lt hi (by omega)
  · decide
theorem cmF_lt {r s i : Nat} (hi : i ≤ 13) : cmF r s i < 8192 := orN_lt fun j hj => cmI_lt (by omega) (Nat.le_refl _)
theorem cmN_lt (r s : Nat) : cmN r s < 8192 := cmF_lt (Nat.le_refl _)
theorem cmI_hit {r s i k : Nat} (h1 : r.testBit i = true) (h2 : s.testBit k = true) : cmI r s i (k + 1) = cmI r s i k ||| cmT i k := by simp [cmI, orN, h1, h2]
theorem orN_zero : ∀ k, orN (fun _ => 0) k = 0
  | 0 => rfl
  | k + 1 => by simp [orN, orN_zero k]
theorem cmI_miss1 {r s i : Nat} (h1 : r.testBit i = false) (k : Nat) : cmI r s i k = 0 := by simp [cmI, h1, orN_zero]
theorem cmI_miss2 {r s i k : Nat} (h2 : s.testBit k = false) : cmI r s i (k + 1) = cmI r s i k := by simp [cmI, orN, h2]
theorem cmN_test {r s j : Nat} : (cmN r s).testBit j = true ↔ ∃ i k, i < 13 ∧ k < 13 ∧ r.testBit i = true ∧ s.testBit k = true ∧ (cmT i k).testBit j = true := by
  simp only [cmN, cmF, orN_test, cmI]
  constructor
  · rintro ⟨i, hi, k, hk, h⟩
    split at h
    · rename_i hc
      simp only [Bool.and_eq_true] at hc
      exact ⟨i, k, hi, hk, hc.1, hc.2, h⟩
    · simp at h
  · rintro ⟨i, k, hi, hk, h1, h2, h3⟩
    exact ⟨i, hi, k, hk, by simp [h1, h2, h3]⟩
def cmpI (r s : Int) : Int := if rv r && rv s then (cmN r.toNat s.toNat : Nat) else -1
theorem cmpI_off1 {r s : Int} (h : rv r = false) : cmpI r s = -1 := by simp [cmpI, h]
theorem cmpI_off2 {r s : Int} (h : rv s = false) : cmpI r s = -1 := by simp [cmpI, h]
theorem cmpI_on {r s : Nat} (h : r < 8192) (h' : s < 8192) : cmpI r s = (cmN r s : Nat) := by simp [cmpI, rv_nat r h, rv_nat s h']
/-- what two letters leave -/
def cbI (r s : ByteArray) : Int := if (lix r).2 && (lix s).2 then (cmT (lix r).1.toNat (lix s).1.toNat : Nat) else -1
theorem cbI_hit {r s : ByteArray} {i k : Nat} (h : lix r = ((i : Int), true)) (h' : lix s = ((k : Int), true)) : cbI r s = (cmT i k : Nat) := by simp [cbI, h, h']
theorem cbI_miss1 {r s : ByteArray} (h : lix r = (0, false)) : cbI r s = -1 := by simp [cbI, h]
theorem cbI_miss2 {r s : ByteArray} (h : lix s = (0, false)) : cbI r s = -1 := by simp [cbI, h]
/-- the greatest relation that, before r, lies within t -/
def reP (r t q : Nat) : Bool := decide (cmN (2 ^ q) r &&& t = cmN (2 ^ q) r)
def reN (r t : Nat) : Nat := whN (reP r t)
def resI (r t : Int) : Int := if rv r && rv t then (reN r.toNat t.toNat : Nat) else -1
theorem resI_off1 {r s : Int} (h : rv r = false) : resI r s = -1 := by simp [resI, h]
theorem resI_off2 {r s : Int} (h : rv s = false) : resI r s = -1 := by simp [resI, h]
theorem resI_on {r s : Nat} (h : r < 8192) (h' : s < 8192) : resI r s = (reN r s : Nat) := by simp [resI, rv_nat r h, rv_nat s h']
end Go.Proofs.YtholffjadnaloaaDoor.C
