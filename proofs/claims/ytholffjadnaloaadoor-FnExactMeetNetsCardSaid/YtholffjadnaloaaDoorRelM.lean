/- Turned, mirrored and other relations: what they are by bits, and what undoes them. No program is named here. -/
import Derived.Test.YtholffjadnaloaaDoorRelP
namespace Go.Proofs.YtholffjadnaloaaDoor.C
open Go.RowKit
theorem chN_lt {f : Nat → Nat} (hf : ∀ k, k < 13 → f k < 13) (n : Nat) : chN f n < 8192 := chF_lt hf (Nat.le_refl _)
theorem chN_test {f : Nat → Nat} (hf : ∀ k, k < 13 → f k < 13) (hi : ∀ k, k < 13 → f (f k) = k) {n j : Nat} (hj : j < 13) : (chN f n).testBit j = n.testBit (f j) := by
  rw [Bool.eq_iff_iff, chN, chF, orN_test]
  constructor
  · rintro ⟨i, h, hb⟩
    obtain ⟨h1, rfl⟩ := bt_test.1 hb
    rw [hi i h]; exact h1
  · intro h
    exact ⟨f j, hf j hj, bt_test.2 ⟨h, hi j hj⟩⟩
theorem turF_inv {k : Nat} (h : k < 13) : turF (turF k) = k := by unfold turF; omega
theorem miN_inv {k : Nat} (h : k < 13) : miN (miN k) = k := by
  rcases nat13 h with rfl | rfl | rfl | rfl | rfl | rfl | rfl | rfl | rfl | rfl | rfl | rfl | rfl <;> decide
theorem tur_mi {k : Nat} (h : k < 13) : turF (miN k) = miN (turF k) := by
  rcases nat13 h with rfl | rfl | rfl | rfl | rfl | rfl | rfl | rfl | rfl | rfl | rfl | rfl | rfl <;> decide
def turN (n : Nat) : Nat := chN turF n
def mirN (n : Nat) : Nat := chN miN n
def othN (n : Nat) : Nat := 8191 - n
theorem turN_lt (n : Nat) : turN n < 8192 := chN_lt (fun _ => turF_lt) n
theorem mirN_lt (n : Nat) : mirN n < 8192 := chN_lt (fun _ => miN_lt) n
theorem othN_lt (n : Nat) : othN n < 8192 := by unfold othN; omega
theorem turN_test {n j : Nat} (hj : j < 13) : (turN n).testBit j = n.testBit (turF j) := chN_test (fun _ => turF_lt) (fun _ => turF_inv) hj
theorem mirN_test {n j : Nat} (hj : j < 13) : (mirN n).testBit j = n.testBit (miN j) := chN_test (fun _ => miN_lt) (fun _ => miN_inv) hj
theorem othN_test {n j : Nat} (hn : n < 8192) (hj : j < 13) : (othN n).testBit j = !n.testBit j := by
  have := Nat.testBit_two_pow_sub_succ (x := n) (n := 13) hn j
  rw [show 2 ^ 13 - (n + 1) = othN n by unfold othN; omega] at this
  rw [this]; simp [hj]
theorem turI_n {n : Nat} (h : n < 8192) : turI n = (turN n : Nat) := turI_on h
theorem mirI_n {n : Nat} (h : n < 8192) : mirI n = (mirN n : Nat) := mirI_on h
theorem othI_n {n : Nat} (h : n < 8192) : othI n = (othN n : Nat) := by rw [othI_on (rv_nat n h)]; unfold othN; omega
theorem tt_n {n : Nat} (h : n < 8192) : turN (turN n) = n := set_ext (turN_lt _) h fun j hj => by rw [turN_test hj, turN_test (turF_lt hj), turF_inv hj]
theorem mm_n {n : Nat} (h : n < 8192) : mirN (mirN n) = n := set_ext (mirN_lt _) h fun j hj => by rw [mirN_test hj, mirN_test (miN_lt hj), miN_inv hj]
theorem tm_n (n : Nat) : turN (mirN n) = mirN (turN n) := set_ext (turN_lt _) (mirN_lt _) fun j hj => by rw [turN_test hj, mirN_test (turF_lt hj), mirN_test hj, turN_test (miN_lt hj), tur_mi hj]
theorem oo_n {n : Nat} (h : n < 8192) : othN (othN n) = n := by unfold othN; omega
theorem to_n {n : Nat} (h : n < 8192) : turN (othN n) = othN (turN n) := set_ext (turN_lt _) (othN_lt _) fun j hj => by rw [turN_test hj, othN_test h (turF_lt hj), othN_test (turN_lt _) hj, turN_test hj]
theorem mo_n {n : Nat} (h : n < 8192) : mirN (othN n) = othN (mirN n) := set_ext (mirN_lt _) (othN_lt _) fun j hj => by rw [mirN_test hj, othN_test h (miN_lt hj), othN_test (mirN_lt _) hj, mirN_test hj]
theorem ct_n {n : Nat} (h : n < 8192) : onesN 13 (turN n) = onesN 13 n := by
  have := all8192_of (p := fun n => onesN 13 (turN n) == onesN 13 n) (by decide +kernel) n h
  simpa using this
theorem cm_n {n : Nat} (h : n < 8192) : onesN 13 (mirN n) = onesN 13 n := by
  have := all8192_of (p := fun n => onesN 13 (mirN n) == onesN 13 n) (by decide +kernel) n h
  simpa using this
theorem co_n {n : Nat} (h : n < 8192) : onesN 13 (othN n) + onesN 13 n = 13 := by
  have := all8192_of (p := fun n => onesN 13 (othN n) + onesN 13 n == 13) (by decide +kernel) n h
  simpa using this
theorem ones_le {n : Nat} (h : n < 8192) : onesN 13 n ≤ 13 := by have := co_n h; omega
theorem sh_u {k : Nat} (h : k < 13) : RowKit.wrap64 ((2 : Int) ^ min (IntKind.u64.wrap (k : Int)).toNat 64) = ((2 ^ k : Nat) : Int) := by
  rw [show min (IntKind.u64.wrap (k : Int)).toNat 64 = k by rw [IntKind.wrap_u64]; omega]
  exact sh_wrap h
end Go.Proofs.YtholffjadnaloaaDoor.C
