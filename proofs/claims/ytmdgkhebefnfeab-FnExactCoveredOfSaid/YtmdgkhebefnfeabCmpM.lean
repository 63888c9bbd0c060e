/- Composition of basic relations and of relations: plain functions, by the orders of ends and by a table of 169 numbers. What composed relations keep: by bits. No program is named here. -/
import Derived.Test.YtmdgkhebefnfeabRelM
namespace Go.Proofs.Ytmdgkhebefnfeab.C
section
open Go.RowKit
/-- what two basic relations leave, by the number of the first and of the second -/
def cmL : List Nat := [1, 1, 1, 1, 31, 31, 1, 1, 1, 1, 31, 31, 8191, 1, 1, 1, 2, 28, 28, 2, 1, 1, 2, 28, 224, 7936, 1, 1, 7, 4, 28, 28, 4, 7, 391, 388, 2044, 1792, 7936, 1, 1, 7, 8, 16, 16, 8, 7, 391, 584, 1072, 2048, 4096, 1, 1, 31, 16, 16, 16, 16, 31, 8191, 7216, 7216, 4096, 4096, 1, 2, 28, 16, 16, 32, 32, 224, 7936, 7168, 7168, 4096, 4096, 1, 2, 4, 8, 16, 32, 64, 128, 256, 512, 1024, 2048, 4096, 1, 2, 4, 4, 28, 224, 128, 128, 256, 256, 1792, 1792, 7936, 391, 388, 388, 388, 2044, 1792, 256, 256, 256, 256, 1792, 1792, 7936, 391, 388, 388, 584, 1072, 1024, 512, 256, 256, 512, 1024, 2048, 4096, 391, 388, 2044, 1072, 1072, 1024, 1024, 1792, 7936, 7168, 7168, 4096, 4096, 391, 584, 1072, 1072, 1072, 2048, 2048, 2048, 4096, 4096, 4096, 4096, 4096, 8191, 7216, 7216, 7216, 7216, 4096, 4096, 4096, 4096, 4096, 4096, 4096, 4096]
def cmT (i k : Nat) : Nat := cmL.getD (13 * i + k) 0
/-- the orders of the ends of a basic relation -/
def e0 (k : Nat) : Int := ord (zf k) 1
def e1 (k : Nat) : Int := ord (zf k) 3
def e2 (k : Nat) : Int := ord (zt k) 1
def e3 (k : Nat) : Int := ord (zt k) 3
def band (a b : Int) : Int := bits .and .i64 a b
/-- the orders that the ends can have by way of a third interval -/
def t0 (i k : Nat) : Int := band (othen (e0 i) (e0 k)) (othen (e1 i) (e2 k))
def t1 (i k : Nat) : Int := band (othen (e0 i) (e1 k)) (othen (e1 i) (e3 k))
def t2 (i k : Nat) : Int := band (othen (e2 i) (e0 k)) (othen (e3 i) (e2 k))
def t3 (i k : Nat) : Int := band (othen (e2 i) (e1 k)) (othen (e3 i) (e3 k))
/-- may ends be in these orders? -/
def alw (a b c d : Int) (j : Nat) : Bool := hs a (e0 j) && hs b (e1 j) && hs c (e2 j) && hs d (e3 j)
def all13 (p : Nat → Bool) : Bool := allB p 13
theorem all13_of {p : Nat → Bool} (h : all13 p = true) {n : Nat} (hn : n < 13) : p n = true := allB_of h n hn
theorem cm_then {i k : Nat} (hi : i < 13) (hk : k < 13) : whN (alw (t0 i k) (t1 i k) (t2 i k) (t3 i k)) = cmT i k := by
  have h : all13 (fun i => all13 fun k => whN (alw (t0 i k) (t1 i k) (t2 i k) (t3 i k)) == cmT i k) = true := by decide +kernel
  simpa using all13_of (all13_of h hi) hk
theorem t_pv {i k : Nat} (hi : i < 13) (hk : k < 13) : pv (t0 i k) = true ∧ pv (t1 i k) = true ∧ pv (t2 i k) = true ∧ pv (t3 i k) = true := by
  have h : all13 (fun i => all13 fun k => pv (t0 i k) && pv (t1 i k) && pv (t2 i k) && pv (t3 i k)) = true := by decide +kernel
  have := all13_of (all13_of h hi) hk
  simp only [Bool.and_eq_true] at this
  exact ⟨this.1.1.1, this.1.1.2, this.1.2, this.2⟩
theorem cmT_lt {i k : Nat} (hi : i < 13) (hk : k < 13) : cmT i k < 8192 := by
  have h : all13 (fun i => all13 fun k => decide (cmT i k < 8192)) = true := by decide +kernel
  exact of_decide_eq_true (all13_of (all13_of h hi) hk)
/-- composed relations -/
def cmI (r s i k : Nat) : Nat := orN (fun k => if r.testBit i && s.testBit k then cmT i k else 0) k
def cmF (r s i : Nat) : Nat := orN (fun i => cmI r s i 13) i
def cmN (r s : Nat) : Nat := cmF r s 13
theorem cmI_lt {r s i k : Nat} (hi : i < 13) (hk : k ≤ 13) : cmI r s i k < 8192 := orN_lt fun j hj => by
  split
  · exact cmT_lt hi (by omega)
  · decide
theorem cmF_lt {r s i : Nat} (hi : i ≤ 13) : cmF r s i < 8192 := orN_lt fun j hj => cmI_lt (by omega) (Nat.le_refl _)
theorem cmN_lt (r s : Nat) : cmN r s < 8192 := cmF_lt (Nat.le_refl _)
theorem cmI_hit {r s i k : Nat} (h1 : r.testBit i = true) (h2 : s.testBit k = true) : cmI r s i (k + 1) = cmI r s i k ||| cmT i k := by simp [cmI, orN, h1, h2]
theorem orN_zero : ∀ k, orN (fun _ => 0) k = 0
  | 0 => rfl
  | k + 1 => by simp [orN, orN_zero k]
theorem cmI_miss1 {r s i : Nat} (h1 : r.testBit i = false) (k : Nat) : cmI r s i k = 0 := by simp [cmI, h1, orN_zero]
theorem cmI_miss2 {r s i k : Nat} (h2 : s.testBit k = false) : cmI r s i (k + 1) = cmI r s i k := by simp [cmI, orN, h2]
theorem cmN_test {r s j : Nat} : (cmN r s).testBit j = true ↔ ∃ i k, i < 13 ∧ k < 13 ∧ r.testBit i = true ∧ s.testBit k = true ∧ (cmT i k).testBit j = true := by
  simp only [cmN, cmF, orN_test, cmI]
  constructor
  · rintro ⟨i, hi, k, hk, h⟩
    split at h
    · rename_i hc
      simp only [Bool.and_eq_true] at hc
      exact ⟨i, k, hi, hk, hc.1, hc.2, h⟩
    · simp at h
  · rintro ⟨i, k, hi, hk, h1, h2, h3⟩
    exact ⟨i, hi, k, hk, by simp [h1, h2, h3]⟩
def cmpI (r s : Int) : Int := if rv r && rv s then (cmN r.toNat s.toNat : Nat) else -1
theorem cmpI_off1 {r s : Int} (h : rv r = false) : cmpI r s = -1 := by simp [cmpI, h]
theorem cmpI_off2 {r s : Int} (h : rv s = false) : cmpI r s = -1 := by simp [cmpI, h]
theorem cmpI_on {r s : Nat} (h : r < 8192) (h' : s < 8192) : cmpI r s = (cmN r s : Nat) := by simp [cmpI, rv_nat r h, rv_nat s h']
/-- what two letters leave -/
def cbI (r s : ByteArray) : Int := if (lix r).2 && (lix s).2 then (cmT (lix r).1.toNat (lix s).1.toNat : Nat) else -1
theorem cbI_hit {r s : ByteArray} {i k : Nat} (h : lix r = ((i : Int), true)) (h' : lix s = ((k : Int), true)) : cbI r s = (cmT i k : Nat) := by simp [cbI, h, h']
theorem cbI_miss1 {r s : ByteArray} (h : lix r = (0, false)) : cbI r s = -1 := by simp [cbI, h]
theorem cbI_miss2 {r s : ByteArray} (h : lix s = (0, false)) : cbI r s = -1 := by simp [cbI, h]
/-- the greatest relation that, before r, lies within t -/
def reP (r t q : Nat) : Bool := decide (cmN (2 ^ q) r &&& t = cmN (2 ^ q) r)
def reN (r t : Nat) : Nat := whN (reP r t)
def resI (r t : Int) : Int := if rv r && rv t then (reN r.toNat t.toNat : Nat) else -1
theorem resI_off1 {r s : Int} (h : rv r = false) : resI r s = -1 := by simp [resI, h]
theorem resI_off2 {r s : Int} (h : rv s = false) : resI r s = -1 := by simp [resI, h]
theorem resI_on {r s : Nat} (h : r < 8192) (h' : s < 8192) : resI r s = (reN r s : Nat) := by simp [resI, rv_nat r h, rv_nat s h']
end
section
open Go.RowKit
set_option linter.unusedVariables false
set_option linter.unusedSimpArgs false
def ex13 (p : Nat → Bool) : Bool := !all13 fun n => !p n
theorem all13_iff {p : Nat → Bool} : all13 p = true ↔ ∀ n, n < 13 → p n = true := by
  constructor
  · exact fun h n hn => all13_of h hn
  · intro h
    have key : ∀ m, m ≤ 13 → allB p m = true := by
      intro m
      induction m with
      | zero => intro _; rfl
      | succ m ih => intro hm; simp only [allB, Bool.and_eq_true]; exact ⟨h m (by omega), ih (by omega)⟩
    exact key 13 (Nat.le_refl _)
/-- what a set leaves with one basic relation behind it, in front of it -/
def colT (r c : Nat) : Nat := orN (fun i => if r.testBit i then cmT i c else 0) 13
def rowT (a s : Nat) : Nat := orN (fun k => if s.testBit k then cmT a k else 0) 13
theorem colT_test {r c j : Nat} : (colT r c).testBit j = true ↔ ∃ i, i < 13 ∧ r.testBit i = true ∧ (cmT i c).testBit j = true := by
  rw [colT, orN_test]
  constructor
  · rintro ⟨i, hi, h⟩
    split at h
    · exact ⟨i, hi, by assumption, h⟩
    · simp at h
  · rintro ⟨i, hi, h1, h2⟩
    exact ⟨i, hi, by simp [h1, h2]⟩
theorem rowT_test {a s j : Nat} : (rowT a s).testBit j = true ↔ ∃ k, k < 13 ∧ s.testBit k = true ∧ (cmT a k).testBit j = true := by
  rw [rowT, orN_test]
  constructor
  · rintro ⟨i, hi, h⟩
    split at h
    · exact ⟨i, hi, by assumption, h⟩
    · simp at h
  · rintro ⟨i, hi, h1, h2⟩
    exact ⟨i, hi, by simp [h1, h2]⟩
theorem asc_base {a b c : Nat} (ha : a < 13) (hb : b < 13) (hc : c < 13) : colT (cmT a b) c = rowT a (cmT b c) := by
  have h : all13 (fun a => all13 fun b => all13 fun c => colT (cmT a b) c == rowT a (cmT b c)) = true := by decide +kernel
  simpa using all13_of (all13_of (all13_of h ha) hb) hc
theorem tur_base {a b : Nat} (ha : a < 13) (hb : b < 13) : turN (cmT a b) = cmT (turF b) (turF a) := by
  have h : all13 (fun a => all13 fun b => turN (cmT a b) == cmT (turF b) (turF a)) = true := by decide +kernel
  simpa using all13_of (all13_of h ha) hb
theorem mir_base {a b : Nat} (ha : a < 13) (hb : b < 13) : mirN (cmT a b) = cmT (miN a) (miN b) := by
  have h : all13 (fun a => all13 fun b => mirN (cmT a b) == cmT (miN a) (miN b)) = true := by decide +kernel
  simpa using all13_of (all13_of h ha) hb
theorem one_base {a : Nat} (ha : a < 13) : cmT a 6 = 2 ^ a ∧ cmT 6 a = 2 ^ a := by
  have h : all13 (fun a => cmT a 6 == 2 ^ a && cmT 6 a == 2 ^ a) = true := by decide +kernel
  simpa using all13_of h ha
theorem some_base {a b : Nat} (ha : a < 13) (hb : b < 13) : cmT a b ≠ 0 := by
  have h : all13 (fun a => all13 fun b => decide (cmT a b ≠ 0)) = true := by decide +kernel
  exact of_decide_eq_true (all13_of (all13_of h ha) hb)
theorem pei_base {a b j : Nat} (ha : a < 13) (hb : b < 13) (hj : j < 13) : (cmT a b).testBit j = (cmT j (turF b)).testBit a := by
  have h : all13 (fun a => all13 fun b => all13 fun j => (cmT a b).testBit j == (cmT j (turF b)).testBit a) = true := by decide +kernel
  simpa using all13_of (all13_of (all13_of h ha) hb) hj
theorem bit_lt {n j : Nat} (hn : n < 8192) (h : n.testBit j = true) : j < 13 := by
  rcases Nat.lt_or_ge j 13 with h' | h'
  · exact h'
  · have : 8192 ≤ 2 ^ j := Nat.pow_le_pow_right (n := 2) (by omega) h'
    rw [Nat.testBit_lt_two_pow (by omega)] at h; cases h
theorem cm_asc (r s u : Nat) : cmN (cmN r s) u = cmN r (cmN s u) := by
  refine set_ext (cmN_lt _ _) (cmN_lt _ _) fun j hj => ?_
  rw [Bool.eq_iff_iff, cmN_test, cmN_test]
  constructor
  · rintro ⟨x, c, hx, hc, h1, h2, h3⟩
    obtain ⟨a, b, ha, hb, g1, g2, g3⟩ := cmN_test.1 h1
    have := colT_test.2 ⟨x, hx, g3, h3⟩
    rw [asc_base ha hb hc] at this
    obtain ⟨y, hy, k1, k2⟩ := rowT_test.1 this
    exact ⟨a, y, ha, hy, g1, cmN_test.2 ⟨b, c, hb, hc, g2, h2, k1⟩, k2⟩
  · rintro ⟨a, y, ha, hy, h1, h2, h3⟩
    obtain ⟨b, c, hb, hc, g1, g2, g3⟩ := cmN_test.1 h2
    have := rowT_test.2 ⟨y, hy, g3, h3⟩
    rw [← asc_base ha hb hc] at this
    obtain ⟨x, hx, k1, k2⟩ := colT_test.1 this
    exact ⟨x, c, hx, hc, cmN_test.2 ⟨a, b, ha, hb, h1, g1, k1⟩, g2, k2⟩
theorem cm_or (r s u : Nat) : cmN r (s ||| u) = cmN r s ||| cmN r u := by
  refine set_ext (cmN_lt _ _) (or_lt (cmN_lt _ _) (cmN_lt _ _)) fun j hj => ?_
  rw [Bool.eq_iff_iff, Nat.testBit_or, Bool.or_eq_true, cmN_test, cmN_test, cmN_test]
  constructor
  · rintro ⟨a, b, ha, hb, h1, h2, h3⟩
    rw [Nat.testBit_or, Bool.or_eq_true] at h2
    rcases h2 with h2 | h2
    · exact .inl ⟨a, b, ha, hb, h1, h2, h3⟩
    · exact .inr ⟨a, b, ha, hb, h1, h2, h3⟩
  · rintro (⟨a, b, ha, hb, h1, h2, h3⟩ | ⟨a, b, ha, hb, h1, h2, h3⟩)
    · exact ⟨a, b, ha, hb, h1, by rw [Nat.testBit_or, h2]; rfl, h3⟩
    · exact ⟨a, b, ha, hb, h1, by rw [Nat.testBit_or, h2]; simp, h3⟩
theorem cm_tur (r s : Nat) : turN (cmN r s) = cmN (turN s) (turN r) := by
  refine set_ext (turN_lt _) (cmN_lt _ _) fun j hj => ?_
  rw [turN_test hj, Bool.eq_iff_iff, cmN_test, cmN_test]
  constructor
  · rintro ⟨a, b, ha, hb, h1, h2, h3⟩
    refine ⟨turF b, turF a, turF_lt hb, turF_lt ha, ?_, ?_, ?_⟩
    · rw [turN_test (turF_lt hb), turF_inv hb]; exact h2
    · rw [turN_test (turF_lt ha), turF_inv ha]; exact h1
    · rw [← tur_base ha hb, turN_test hj]; exact h3
  · rintro ⟨x, y, hx, hy, h1, h2, h3⟩
    rw [turN_test hx] at h1
    rw [turN_test hy] at h2
    refine ⟨turF y, turF x, turF_lt hy, turF_lt hx, h2, h1, ?_⟩
    have := tur_base (turF_lt hy) (turF_lt hx)
    rw [turF_inv hx, turF_inv hy] at this
    rw [← this, turN_test hj] at h3; exact h3
theorem cm_mir (r s : Nat) : mirN (cmN r s) = cmN (mirN r) (mirN s) := by
  refine set_ext (mirN_lt _) (cmN_lt _ _) fun j hj => ?_
  rw [mirN_test hj, Bool.eq_iff_iff, cmN_test, cmN_test]
  constructor
  · rintro ⟨a, b, ha, hb, h1, h2, h3⟩
    refine ⟨miN a, miN b, miN_lt ha, miN_lt hb, ?_, ?_, ?_⟩
    · rw [mirN_test (miN_lt ha), miN_inv ha]; exact h1
    · rw [mirN_test (miN_lt hb), miN_inv hb]; exact h2
    · rw [← mir_base ha hb, mirN_test hj]; exact h3
  · rintro ⟨x, y, hx, hy, h1, h2, h3⟩
    rw [mirN_test hx] at h1
    rw [mirN_test hy] at h2
    refine ⟨miN x, miN y, miN_lt hx, miN_lt hy, h1, h2, ?_⟩
    have := mir_base (miN_lt hx) (miN_lt hy)
    rw [miN_inv hx, miN_inv hy] at this
    rw [← this, mirN_test hj] at h3; exact h3
theorem cm_one {r : Nat} (hr : r < 8192) : cmN r 64 = r ∧ cmN 64 r = r := by
  have h64 : ∀ k, (64 : Nat).testBit k = true ↔ k = 6 := fun k => by
    rw [show (64 : Nat) = 2 ^ 6 from rfl, Nat.testBit_two_pow]
    simp [eq_comm]
  constructor
  · refine set_ext (cmN_lt _ _) hr fun j hj => ?_
    rw [Bool.eq_iff_iff, cmN_test]
    constructor
    · rintro ⟨a, b, ha, hb, h1, h2, h3⟩
      obtain rfl := (h64 b).1 h2
      rw [(one_base ha).1, Nat.testBit_two_pow] at h3
      have e : a = j := of_decide_eq_true h3
      rw [← e]; exact h1
    · intro h
      exact ⟨j, 6, hj, by omega, h, (h64 6).2 rfl, by rw [(one_base hj).1, Nat.testBit_two_pow_self]⟩
  · refine set_ext (cmN_lt _ _) hr fun j hj => ?_
    rw [Bool.eq_iff_iff, cmN_test]
    constructor
    · rintro ⟨a, b, ha, hb, h1, h2, h3⟩
      obtain rfl := (h64 a).1 h1
      rw [(one_base hb).2, Nat.testBit_two_pow] at h3
      have e : b = j := of_decide_eq_true h3
      rw [← e]; exact h2
    · intro h
      exact ⟨6, j, by omega, hj, (h64 6).2 rfl, h, by rw [(one_base hj).2, Nat.testBit_two_pow_self]⟩
theorem bit_some {n : Nat} (h : n ≠ 0) : ∃ j, n.testBit j = true := by
  rcases Nat.exists_testBit_of_ne_zero h with ⟨j, hj⟩
  exact ⟨j, hj⟩
theorem cm_zero {r s : Nat} (hr : r < 8192) (hs : s < 8192) : cmN r s = 0 ↔ r = 0 ∨ s = 0 := by
  constructor
  · intro h
    by_cases h1 : r = 0
    · exact .inl h1
    · by_cases h2 : s = 0
      · exact .inr h2
      · exfalso
        obtain ⟨a, ha⟩ := bit_some h1
        obtain ⟨b, hb⟩ := bit_some h2
        have la := bit_lt hr ha
        have lb := bit_lt hs hb
        obtain ⟨j, hj⟩ := bit_some (some_base la lb)
        have := cmN_test.2 ⟨a, b, la, lb, ha, hb, hj⟩
        rw [h] at this; simp at this
  · intro h
    refine Nat.eq_of_testBit_eq fun j => ?_
    rw [Nat.zero_testBit]
    cases hb : (cmN r s).testBit j
    · rfl
    · obtain ⟨a, b, _, _, h1, h2, _⟩ := cmN_test.1 hb
      rcases h with rfl | rfl <;> simp at h1 h2
theorem and_zero {a b : Nat} : a &&& b = 0 ↔ ∀ j, ¬ (a.testBit j = true ∧ b.testBit j = true) := by
  constructor
  · intro h j ⟨h1, h2⟩
    have : (a &&& b).testBit j = true := by rw [Nat.testBit_and, h1, h2]; rfl
    rw [h] at this; simp at this
  · intro h
    refine Nat.eq_of_testBit_eq fun j => ?_
    rw [Nat.testBit_and, Nat.zero_testBit]
    cases h1 : a.testBit j <;> cases h2 : b.testBit j <;> simp
    exact h j ⟨h1, h2⟩
theorem sub_iff {a b : Nat} : a &&& b = a ↔ ∀ j, a.testBit j = true → b.testBit j = true := by
  constructor
  · intro h j h1
    have : (a &&& b).testBit j = true := by rw [h]; exact h1
    rw [Nat.testBit_and, h1] at this; simpa using this
  · intro h
    refine Nat.eq_of_testBit_eq fun j => ?_
    rw [Nat.testBit_and]
    cases h1 : a.testBit j
    · rfl
    · rw [h j h1]; rfl
theorem re_test {r t q : Nat} (hq : q < 13) (ht : t < 8192) : (reN r t).testBit q = true ↔ ∀ k j, k < 13 → j < 13 → r.testBit k = true → (cmT q k).testBit j = true → t.testBit j = true := by
  rw [reN, whN_test hq, reP, decide_eq_true_eq, sub_iff]
  constructor
  · intro h k j hk hj h1 h2
    exact h j (cmN_test.2 ⟨q, k, hq, hk, by rw [Nat.testBit_two_pow_self], h1, h2⟩)
  · intro h j hj
    obtain ⟨a, k, ha, hk, h1, h2, h3⟩ := cmN_test.1 hj
    rw [Nat.testBit_two_pow] at h1
    obtain rfl := of_decide_eq_true h1
    exact h k j hk (bit_lt (cmN_lt _ _) hj) h2 h3
theorem reN_lt (r t : Nat) : reN r t < 8192 := whF_lt (Nat.le_refl _)
theorem re_sub {x r t : Nat} (hx : x < 8192) (ht : t < 8192) : cmN x r &&& othN t = 0 ↔ x &&& othN (reN r t) = 0 := by
  rw [and_zero, and_zero]
  constructor
  · rintro h q ⟨h1, h2⟩
    have hq := bit_lt hx h1
    rw [othN_test (reN_lt _ _) hq] at h2
    have hn : ¬ (reN r t).testBit q = true := by simpa using h2
    apply hn
    rw [re_test hq ht]
    intro k j hk hj g1 g2
    have hc : (cmN x r).testBit j = true := cmN_test.2 ⟨q, k, hq, hk, h1, g1, g2⟩
    cases g : t.testBit j
    · exact absurd ⟨hc, by rw [othN_test ht hj, g]; rfl⟩ (h j)
    · rfl
  · rintro h j ⟨h1, h2⟩
    have hj := bit_lt (cmN_lt _ _) h1
    rw [othN_test ht hj] at h2
    obtain ⟨a, k, ha, hk, g1, g2, g3⟩ := cmN_test.1 h1
    have hr : (reN r t).testBit a = true := by
      cases g : (reN r t).testBit a
      · exact absurd ⟨g1, by rw [othN_test (reN_lt _ _) ha, g]; rfl⟩ (h a)
      · rfl
    have := (re_test ha ht).1 hr k j hk hj g2 g3
    rw [this] at h2; simp at h2
theorem re_self (r t : Nat) (ht : t < 8192) : cmN (reN r t) r &&& othN t = 0 := by
  rw [re_sub (reN_lt _ _) ht, and_zero]
  rintro j ⟨h1, h2⟩
  rw [othN_test (reN_lt _ _) (bit_lt (reN_lt _ _) h1), h1] at h2
  simp at h2
theorem re_oth (r t : Nat) (ht : t < 8192) : othN (reN r t) = cmN (othN t) (turN r) := by
  refine set_ext (othN_lt _) (cmN_lt _ _) fun q hq => ?_
  rw [othN_test (reN_lt _ _) hq, Bool.eq_iff_iff, cmN_test]
  simp only [Bool.not_eq_true', ← Bool.not_eq_true]
  rw [re_test hq ht]
  constructor
  · intro h
    simp only [Classical.not_forall] at h
    obtain ⟨k, j, hk, hj, h1, h2, h3⟩ := h
    refine ⟨j, turF k, hj, turF_lt hk, by rw [othN_test ht hj]; simpa using h3, by rw [turN_test (turF_lt hk), turF_inv hk]; exact h1, ?_⟩
    rw [← pei_base hq hk hj]; exact h2
  · rintro ⟨j, y, hj, hy, h1, h2, h3⟩ h
    rw [turN_test hy] at h2
    rw [othN_test ht hj] at h1
    have := h (turF y) j (turF_lt hy) hj h2 (by rw [pei_base hq (turF_lt hy) hj, turF_inv hy]; exact h3)
    rw [this] at h1; simp at h1
end
end Go.Proofs.Ytmdgkhebefnfeab.C
