/- Digits of 16 values: the model's and the program's, of one relation. -/
import Derived.Test.YtdamnhigdaklcaaNetP
import Derived.Test.YtdamnhigdaklcaaRelU
import Derived.Lib.Bytealg
namespace Go.Proofs.Ytdamnhigdaklcaa.C
open Go.RowKit
set_option linter.unusedVariables false
set_option linter.unusedSimpArgs false
/-- the text of all digits -/
def hexB : ByteArray := ⟨#[48, 49, 50, 51, 52, 53, 54, 55, 56, 57, 97, 98, 99, 100, 101, 102]⟩
theorem hexB_at {k : Nat} (h : k < 16) : (hexB[k]'(by exact h)) = hxd k := by
  rcases nat16 h with rfl | rfl | rfl | rfl | rfl | rfl | rfl | rfl | rfl | rfl | rfl | rfl | rfl | rfl | rfl | rfl <;> rfl
theorem hxI_ge (c : UInt8) : -1 ≤ hxI c ∧ hxI c < 16 := by
  rcases hxI_cases c with h | ⟨k, hk, _, h⟩ <;> omega
theorem takeB (s : ByteArray) (k : Nat) (h : k < s.size) : s.data.toList.take (k + 1) = s.data.toList.take k ++ [s[k]] := by
  rw [List.take_succ_eq_append_getElem (by simpa using h)]; rfl
theorem numF_take (s : ByteArray) {k : Nat} (h : k < s.size) : numF (s.data.toList.take (k + 1)) = numS (numF (s.data.toList.take k)) s[k] := by rw [takeB s k h, numF_snoc]
theorem nb_neg {s : ByteArray} {k : Nat} (h : numF (s.data.toList.take k) = -1) : nb s = -1 := by
  have := numF_neg (m := s.data.toList.drop k) h
  rwa [List.take_append_drop] at this
theorem nb_four {s : ByteArray} (h : s.size = 4) : numF (s.data.toList.take 4) = nb s := by
  rw [List.take_of_length_le (by rw [Array.length_toList]; exact Nat.le_of_eq h)]; rfl
theorem pow16 {k : Nat} (h : k ≤ 4) : (16 : Int) ^ k ≤ 65536 := by
  have : k = 0 ∨ k = 1 ∨ k = 2 ∨ k = 3 ∨ k = 4 := by omega
  rcases this with rfl | rfl | rfl | rfl | rfl <;> decide
theorem num_lt (s : ByteArray) {k : Nat} (h : k ≤ 4) : numF (s.data.toList.take k) < 65536 := by
  rcases numF_pow (s.data.toList.take k) with e | ⟨_, e⟩
  · omega
  · have h1 : (s.data.toList.take k).length ≤ 4 := by rw [List.length_take]; omega
    have := pow16 h1
    omega
theorem hex_ext {k : Nat} (h : k < 16) : (⟨#[48, 49, 50, 51, 52, 53, 54, 55, 56, 57, 97, 98, 99, 100, 101, 102]⟩ : ByteArray).extract k (k + 1) = ⟨#[hxd k]⟩ := by
  rcases nat16 h with rfl | rfl | rfl | rfl | rfl | rfl | rfl | rfl | rfl | rfl | rfl | rfl | rfl | rfl | rfl | rfl <;> rfl
theorem and15 {n : Nat} (h : n < 65536) : bits .and .i64 (n : Int) 15 = ((n % 16 : Nat) : Int) := by
  show IntKind.i64.wrap ((BitVec.ofInt 64 (n : Int) &&& BitVec.ofInt 64 ((15 : Nat) : Int)).toNat : Int) = _
  have hx : n &&& 15 = n % 16 := Nat.and_two_pow_sub_one_eq_mod n 4
  rw [BitVec.toNat_and, ofInt_u64 n (by omega), ofInt_u64 15 (by omega), hx, IntWalk.i64_in _ (by omega)]
set_option maxHeartbeats 2000000 in
theorem l5Digits_any (r : Nat) (hr : r < 65536) (w : World) :
    Calls Try.prog 12 #[.int .i64 r] w fun e w' => e = .returned (.string (dig r)) ∧ w = w' := by
  have a0 := and15 hr
  have a1 : bits .and .i64 ((r : Int) / 16) 15 = ((r / 16 % 16 : Nat) : Int) := and15 (show r / 16 < 65536 by omega)
  have a2 : bits .and .i64 ((r : Int) / 256) 15 = ((r / 256 % 16 : Nat) : Int) := and15 (show r / 256 < 65536 by omega)
  have a3 : bits .and .i64 ((r : Int) / 4096) 15 = ((r / 4096 % 16 : Nat) : Int) := and15 (show r / 4096 < 65536 by omega)
  have HS := AllLt.start w; go_enter Try.func12, Try.ntmps12
  go_wp2
  go_rounds 5
  all_goals
    go_ret
    exact ⟨ret_str (by rw [hex_ext (Nat.mod_lt _ (by omega)), hex_ext (Nat.mod_lt _ (by omega)), hex_ext (Nat.mod_lt _ (by omega)), hex_ext (Nat.mod_lt _ (by omega))]; rfl), rfl⟩
end Go.Proofs.Ytdamnhigdaklcaa.C
