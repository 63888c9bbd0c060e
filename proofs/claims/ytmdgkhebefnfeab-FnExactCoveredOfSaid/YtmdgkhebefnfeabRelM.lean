/- Sets of thirteen basic relations as natural numbers below 8192: plain functions and facts, no program is named here. Turned, mirrored and other relations: what they are by bits, and what undoes them. No program is named here. -/
import Derived.Test.YtmdgkhebefnfeabPure
import Derived.Laws.BitsAllLaws
import Derived.IntWalk
namespace Go.Proofs.Ytmdgkhebefnfeab.C
section
open Go.RowKit

theorem wrap_nat (n : Nat) (h : n < 9223372036854775808) : IntKind.i64.wrap (n : Int) = n := IntWalk.i64_in _ (by omega)
theorem i64_and (a b : Nat) (ha : a < 8192) (hb : b < 8192) : bits .and .i64 (a : Int) (b : Int) = ((a &&& b : Nat) : Int) := by
  have hx : a &&& b < 2 ^ 13 := Nat.and_lt_two_pow _ (by omega)
  show IntKind.i64.wrap ((BitVec.ofInt 64 (a : Int) &&& BitVec.ofInt 64 (b : Int)).toNat : Int) = _
  rw [BitVec.toNat_and, ofInt_u64 a (by omega), ofInt_u64 b (by omega), IntWalk.i64_in _ (by omega)]
theorem i64_or (a b : Nat) (ha : a < 8192) (hb : b < 8192) : bits .or .i64 (a : Int) (b : Int) = ((a ||| b : Nat) : Int) := by
  have hx : a ||| b < 2 ^ 13 := Nat.or_lt_two_pow (by omega) (by omega)
  show IntKind.i64.wrap ((BitVec.ofInt 64 (a : Int) ||| BitVec.ofInt 64 (b : Int)).toNat : Int) = _
  rw [BitVec.toNat_or, ofInt_u64 a (by omega), ofInt_u64 b (by omega), IntWalk.i64_in _ (by omega)]
/-- a fact of all numbers below m -/
def allB (p : Nat → Bool) : Nat → Bool
  | 0 => true
  | n + 1 => p n && allB p n
theorem allB_of {p : Nat → Bool} : ∀ {m : Nat}, allB p m = true → ∀ n, n < m → p n = true
  | 0, _, n, h => by omega
  | m + 1, H, n, h => by
    simp only [allB, Bool.and_eq_true] at H
    by_cases e : n = m
    · rw [e]; exact H.1
    · exact allB_of H.2 n (by omega)
/-- .. of all numbers below 8192, by their high and low parts -/
def all8192 (p : Nat → Bool) : Bool := allB (fun a => allB (fun b => p (128 * a + b)) 128) 64
theorem all8192_of {p : Nat → Bool} (h : all8192 p = true) (n : Nat) (hn : n < 8192) : p n = true := by
  have := allB_of (allB_of h (n / 128) (by omega)) (n % 128) (Nat.mod_lt _ (by omega))
  simpa [Nat.div_add_mod] using this
/-- a number is a relation -/
def rv (r : Int) : Bool := btw 0 r 8191
theorem rv_nat (n : Nat) (h : n < 8192) : rv (n : Int) = true := by simp [rv, btw]; omega
theorem rv_iff (r : Int) : rv r = true ↔ 0 ≤ r ∧ r ≤ 8191 := by simp [rv, btw]
theorem rv_off (r : Int) : rv r = false ↔ ¬ (0 ≤ r ∧ r ≤ 8191) := by rw [← rv_iff]; simp
theorem rv_on {r : Int} (h : rv r = true) : ∃ n : Nat, n < 8192 ∧ r = n := by
  rw [rv_iff] at h
  exact ⟨r.toNat, by omega, by omega⟩
theorem rv_cases (r : Int) : rv r = false ∨ ∃ n : Nat, n < 8192 ∧ r = n := by
  cases h : rv r
  · exact .inl rfl
  · exact .inr (rv_on h)
theorem sh_wrap {k : Nat} (h : k < 13) : RowKit.wrap64 ((2 : Int) ^ k) = ((2 ^ k : Nat) : Int) := by
  rcases nat13 h with rfl | rfl | rfl | rfl | rfl | rfl | rfl | rfl | rfl | rfl | rfl | rfl | rfl <;> decide +kernel
/-- all of f's sets together -/
def orN (f : Nat → Nat) : Nat → Nat
  | 0 => 0
  | k + 1 => orN f k ||| f k
theorem or_lt {a b : Nat} (ha : a < 8192) (hb : b < 8192) : a ||| b < 8192 := Nat.or_lt_two_pow (n := 13) ha hb
theorem orN_lt {f : Nat → Nat} : ∀ {k : Nat}, (∀ i, i < k → f i < 8192) → orN f k < 8192
  | 0, _ => by simp [orN]
  | k + 1, h => or_lt (orN_lt fun i hi => h i (by omega)) (h k (by omega))
theorem pow_lt {k : Nat} (h : k < 13) : 2 ^ k < 8192 := Nat.pow_lt_pow_right (a := 2) (by omega) h
theorem orN_test {f : Nat → Nat} {j : Nat} : ∀ {k : Nat}, (orN f k).testBit j = true ↔ ∃ i, i < k ∧ (f i).testBit j = true
  | 0 => by simp [orN]
  | k + 1 => by
    simp only [orN, Nat.testBit_or, Bool.or_eq_true, orN_test (k := k)]
    constructor
    · rintro (⟨i, h1, h2⟩ | h)
      · exact ⟨i, by omega, h2⟩
      · exact ⟨k, by omega, h⟩
    · rintro ⟨i, h1, h2⟩
      by_cases e : i = k
      · subst e; exact .inr h2
      · exact .inl ⟨i, by omega, h2⟩
theorem orN_congr {f g : Nat → Nat} : ∀ {k : Nat}, (∀ i, i < k → f i = g i) → orN f k = orN g k
  | 0, _ => rfl
  | k + 1, h => by simp only [orN]; rw [orN_congr fun i hi => h i (by omega), h k (by omega)]
/-- the set of j alone, if p -/
def bt (p : Bool) (j : Nat) : Nat := if p then 2 ^ j else 0
theorem bt_lt {p : Bool} {j : Nat} (h : j < 13) : bt p j < 8192 := by cases p <;> simp [bt]; exact pow_lt h
theorem bt_test {p : Bool} {j i : Nat} : (bt p j).testBit i = true ↔ p = true ∧ j = i := by
  cases p
  · simp [bt]
  · simp [bt, Nat.testBit_two_pow]
/-- each basic relation changed -/
def chF (f : Nat → Nat) (n : Nat) (k : Nat) : Nat := orN (fun k => bt (n.testBit k) (f k)) k
def chN (f : Nat → Nat) (n : Nat) : Nat := chF f n 13
/-- those that fit -/
def whF (p : Nat → Bool) (k : Nat) : Nat := orN (fun k => bt (p k) k) k
def whN (p : Nat → Bool) : Nat := whF p 13
theorem chF_lt {f : Nat → Nat} (hf : ∀ k, k < 13 → f k < 13) {n k : Nat} (hk : k ≤ 13) : chF f n k < 8192 := orN_lt fun i hi => bt_lt (hf i (by omega))
theorem whF_lt {p : Nat → Bool} {k : Nat} (hk : k ≤ 13) : whF p k < 8192 := orN_lt fun i hi => bt_lt (by omega)
theorem chF_hit {f : Nat → Nat} {n k : Nat} (h : n.testBit k = true) : chF f n (k + 1) = chF f n k ||| 2 ^ (f k) := by simp [chF, orN, bt, h]
theorem chF_miss {f : Nat → Nat} {n k : Nat} (h : n.testBit k = false) : chF f n (k + 1) = chF f n k := by simp [chF, orN, bt, h]
theorem whF_hit {p : Nat → Bool} {k : Nat} (h : p k = true) : whF p (k + 1) = whF p k ||| 2 ^ k := by simp [whF, orN, bt, h]
theorem whF_miss {p : Nat → Bool} {k : Nat} (h : p k = false) : whF p (k + 1) = whF p k := by simp [whF, orN, bt, h]
theorem whN_test {p : Nat → Bool} {j : Nat} (hj : j < 13) : (whN p).testBit j = p j := by
  rw [Bool.eq_iff_iff, whN, whF, orN_test]
  constructor
  · rintro ⟨i, _, h⟩
    obtain ⟨h1, rfl⟩ := bt_test.1 h
    exact h1
  · intro h
    exact ⟨j, hj, bt_test.2 ⟨h, rfl⟩⟩
/-- sets below 8192 are equal if they have the same -/
theorem set_ext {a b : Nat} (ha : a < 8192) (hb : b < 8192) (h : ∀ j, j < 13 → a.testBit j = b.testBit j) : a = b := by
  refine Nat.eq_of_testBit_eq fun j => ?_
  by_cases hj : j < 13
  · exact h j hj
  · have hp : 8192 ≤ 2 ^ j := Nat.pow_le_pow_right (n := 2) (by omega) (show 13 ≤ j by omega)
    rw [Nat.testBit_lt_two_pow (by omega), Nat.testBit_lt_two_pow (by omega)]
theorem has_bit (n k : Nat) (hn : n < 8192) (hk : k < 13) : (bits .and .i64 (n : Int) ((2 ^ k : Nat) : Int) != 0) = n.testBit k := by
  rw [i64_and n _ hn (pow_lt hk)]
  cases h : n.testBit k
  · have : n &&& 2 ^ k = 0 := by
      refine Nat.eq_of_testBit_eq fun j => ?_
      rw [Nat.testBit_and, Nat.testBit_two_pow]
      by_cases e : k = j
      · subst e; simp [h]
      · simp [e]
    rw [this]; rfl
  · have : (n &&& 2 ^ k).testBit k = true := by rw [Nat.testBit_and, Nat.testBit_two_pow_self, h]; rfl
    have hne : n &&& 2 ^ k ≠ 0 := fun e => by rw [e] at this; simp at this
    rw [bne_iff_ne]; omega
theorem has_shr (n k : Nat) : (n / 2 ^ k) % 2 = (n.testBit k).toNat := by
  rw [Nat.testBit_eq_decide_div_mod_eq]
  by_cases h : n / 2 ^ k % 2 = 1
  · simp [h]
  · have : n / 2 ^ k % 2 = 0 := by omega
    simp [this]
/-! Turned and mirrored relations, all others, and how many there are -/
def turF (k : Nat) : Nat := 12 - k
def turI (r : Int) : Int := if rv r then (chN turF r.toNat : Nat) else -1
def mirI (r : Int) : Int := if rv r then (chN miN r.toNat : Nat) else -1
def othI (r : Int) : Int := if rv r then 8191 - r else -1
def onesN : Nat → Nat → Nat
  | 0, _ => 0
  | f + 1, n => n % 2 + onesN f (n / 2)
def cnI (r : Int) : Int := if rv r then (onesN 13 r.toNat : Nat) else -1
theorem turI_off {r : Int} (h : rv r = false) : turI r = -1 := by simp [turI, h]
theorem turI_on {n : Nat} (h : n < 8192) : turI n = (chN turF n : Nat) := by simp [turI, rv_nat n h]
theorem mirI_off {r : Int} (h : rv r = false) : mirI r = -1 := by simp [mirI, h]
theorem mirI_on {n : Nat} (h : n < 8192) : mirI n = (chN miN n : Nat) := by simp [mirI, rv_nat n h]
theorem othI_off {r : Int} (h : rv r = false) : othI r = -1 := by simp [othI, h]
theorem othI_on {r : Int} (h : rv r = true) : othI r = 8191 - r := by simp [othI, h]
theorem cnI_off {r : Int} (h : rv r = false) : cnI r = -1 := by simp [cnI, h]
theorem cnI_on {n : Nat} (h : n < 8192) : cnI n = (onesN 13 n : Nat) := by simp [cnI, rv_nat n h]
theorem turF_lt {k : Nat} (h : k < 13) : turF k < 13 := by unfold turF; omega
theorem andNot_on {n : Nat} (h : n < 8192) : bits .andNot .i64 8191 (n : Int) = 8191 - (n : Int) := by
  have := all8192_of (p := fun n => decide (bits .andNot .i64 8191 (n : Int) = 8191 - (n : Int))) (by decide +kernel) n h
  exact of_decide_eq_true this
/-! The letters of a relation -/
def ltsF (n : Nat) : Nat → List UInt8
  | 0 => []
  | k + 1 => ltsF n k ++ (if n.testBit k then [ltb k] else [])
def ltsN (n : Nat) : List UInt8 := if n = 0 then [45] else ltsF n 13
theorem ltsF_hit {n k : Nat} (h : n.testBit k = true) : ltsF n (k + 1) = ltsF n k ++ [ltb k] := by simp [ltsF, h]
theorem ltsF_miss {n k : Nat} (h : n.testBit k = false) : ltsF n (k + 1) = ltsF n k := by simp [ltsF, h]
theorem ltsF_len (n : Nat) : ∀ k, (ltsF n k).length ≤ k
  | 0 => by simp [ltsF]
  | k + 1 => by
    have := ltsF_len n k
    simp only [ltsF, List.length_append]
    split <;> simp <;> omega
def fmS (r : Int) : ByteArray := if rv r then ⟨(ltsN r.toNat).toArray⟩ else ⟨#[]⟩
theorem fmS_off {r : Int} (h : rv r = false) : fmS r = ⟨#[]⟩ := by simp [fmS, h]
theorem fmS_on {n : Nat} (h : n < 8192) : fmS n = ⟨(ltsN n).toArray⟩ := by simp [fmS, rv_nat n h]
end
section
open Go.RowKit
theorem chN_lt {f : Nat → Nat} (hf : ∀ k, k < 13 → f k < 13) (n : Nat) : chN f n < 8192 := chF_lt hf (Nat.le_refl _)
theorem chN_test {f : Nat → Nat} (hf : ∀ k, k < 13 → f k < 13) (hi : ∀ k, k < 13 → f (f k) = k) {n j : Nat} (hj : j < 13) : (chN f n).testBit j = n.testBit (f j) := by
  rw [Bool.eq_iff_iff, chN, chF, orN_test]
  constructor
  · rintro ⟨i, h, hb⟩
    obtain ⟨h1, rfl⟩ := bt_test.1 hb
    rw [hi i h]; exact h1
  · intro h
    exact ⟨f j, hf j hj, bt_test.2 ⟨h, hi j hj⟩⟩
theorem turF_inv {k : Nat} (h : k < 13) : turF (turF k) = k := by unfold turF; omega
theorem miN_inv {k : Nat} (h : k < 13) : miN (miN k) = k := by
  rcases nat13 h with rfl | rfl | rfl | rfl | rfl | rfl | rfl | rfl | rfl | rfl | rfl | rfl | rfl <;> decide
theorem tur_mi {k : Nat} (h : k < 13) : turF (miN k) = miN (turF k) := by
  rcases nat13 h with rfl | rfl | rfl | rfl | rfl | rfl | rfl | rfl | rfl | rfl | rfl | rfl | rfl <;> decide
def turN (n : Nat) : Nat := chN turF n
def mirN (n : Nat) : Nat := chN miN n
def othN (n : Nat) : Nat := 8191 - n
theorem turN_lt (n : Nat) : turN n < 8192 := chN_lt (fun _ => turF_lt) n
theorem mirN_lt (n : Nat) : mirN n < 8192 := chN_lt (fun _ => miN_lt) n
theorem othN_lt (n : Nat) : othN n < 8192 := by unfold othN; omega
theorem turN_test {n j : Nat} (hj : j < 13) : (turN n).testBit j = n.testBit (turF j) := chN_test (fun _ => turF_lt) (fun _ => turF_inv) hj
theorem mirN_test {n j : Nat} (hj : j < 13) : (mirN n).testBit j = n.testBit (miN j) := chN_test (fun _ => miN_lt) (fun _ => miN_inv) hj
theorem othN_test {n j : Nat} (hn : n < 8192) (hj : j < 13) : (othN n).testBit j = !n.testBit j := by
  have := Nat.testBit_two_pow_sub_succ (x := n) (n := 13) hn j
  rw [show 2 ^ 13 - (n + 1) = othN n by unfold othN; omega] at this
  rw [this]; simp [hj]
theorem turI_n {n : Nat} (h : n < 8192) : turI n = (turN n : Nat) := turI_on h
theorem mirI_n {n : Nat} (h : n < 8192) : mirI n = (mirN n : Nat) := mirI_on h
theorem othI_n {n : Nat} (h : n < 8192) : othI n = (othN n : Nat) := by rw [othI_on (rv_nat n h)]; unfold othN; omega
theorem tt_n {n : Nat} (h : n < 8192) : turN (turN n) = n := set_ext (turN_lt _) h fun j hj => by rw [turN_test hj, turN_test (turF_lt hj), turF_inv hj]
theorem mm_n {n : Nat} (h : n < 8192) : mirN (mirN n) = n := set_ext (mirN_lt _) h fun j hj => by rw [mirN_test hj, mirN_test (miN_lt hj), miN_inv hj]
theorem tm_n (n : Nat) : turN (mirN n) = mirN (turN n) := set_ext (turN_lt _) (mirN_lt _) fun j hj => by rw [turN_test hj, mirN_test (turF_lt hj), mirN_test hj, turN_test (miN_lt hj), tur_mi hj]
theorem oo_n {n : Nat} (h : n < 8192) : othN (othN n) = n := by unfold othN; omega
theorem to_n {n : Nat} (h : n < 8192) : turN (othN n) = othN (turN n) := set_ext (turN_lt _) (othN_lt _) fun j hj => by rw [turN_test hj, othN_test h (turF_lt hj), othN_test (turN_lt _) hj, turN_test hj]
theorem mo_n {n : Nat} (h : n < 8192) : mirN (othN n) = othN (mirN n) := set_ext (mirN_lt _) (othN_lt _) fun j hj => by rw [mirN_test hj, othN_test h (miN_lt hj), othN_test (mirN_lt _) hj, mirN_test hj]
theorem ct_n {n : Nat} (h : n < 8192) : onesN 13 (turN n) = onesN 13 n := by
  have := all8192_of (p := fun n => onesN 13 (turN n) == onesN 13 n) (by decide +kernel) n h
  simpa using this
theorem cm_n {n : Nat} (h : n < 8192) : onesN 13 (mirN n) = onesN 13 n := by
  have := all8192_of (p := fun n => onesN 13 (mirN n) == onesN 13 n) (by decide +kernel) n h
  simpa using this
theorem co_n {n : Nat} (h : n < 8192) : onesN 13 (othN n) + onesN 13 n = 13 := by
  have := all8192_of (p := fun n => onesN 13 (othN n) + onesN 13 n == 13) (by decide +kernel) n h
  simpa using this
theorem ones_le {n : Nat} (h : n < 8192) : onesN 13 n ≤ 13 := by have := co_n h; omega
theorem sh_u {k : Nat} (h : k < 13) : RowKit.wrap64 ((2 : Int) ^ min (IntKind.u64.wrap (k : Int)).toNat 64) = ((2 ^ k : Nat) : Int) := by
  rw [show min (IntKind.u64.wrap (k : Int)).toNat 64 = k by rw [IntKind.wrap_u64]; omega]
  exact sh_wrap h
end
end Go.Proofs.Ytmdgkhebefnfeab.C
